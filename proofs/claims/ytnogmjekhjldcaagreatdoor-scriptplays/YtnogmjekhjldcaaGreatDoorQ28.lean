/-
  What the claimed theorem reaches, part Q28.
-/
import Derived.Test.YtnogmjekhjldcaaGreatDoorQ21
import Derived.Test.YtnogmjekhjldcaaGreatDoorQ27
namespace Go.Proofs.YtnogmjekhjldcaaGreatDoor
open Go.RowKit Go.Proofs.Tryz
set_option maxRecDepth 100000
set_option maxHeartbeats 8000000
theorem Vr (n:Nat) (s:By) (lv:Int) (w:World) (R:fG w n s lv) (hB:s.B.length=64) :
  Calls prog 35 #[.pointer (some (n,0))] w fun e w'=>(e=.returned (.pointer (some (w.heap.size,0)))/\og w' w n (newest s.B) false)/\Below w w w':=by
 have HR:Hid (fG w n s lv):=R;have m:Hid (s.B.length=64):=hB;clear R hB;go_enter func35,ntmps35;go_wp2_with fail;obtain⟨O,o⟩:∃O,O=w.alloc (.cells #[.pointer (some (n,0)),.int .i64 0,.int .i64 0,.int .i64 0,.bool false] 90):=⟨_,rfl⟩;have C1:Hid (og O w n ⟨0,0,0⟩ false):=by rw[o];exact dh w _
 have B1:Hid (Below w w O):=by rw[o];exact aB _ _
 rw[<- o];clear o;obtain⟨Z,U⟩:∃Z,Z=w.heap.size:=⟨_,rfl⟩;have G:Hid (Z=w.heap.size):=U;rw[<- U]at C1 ⊢;clear U;go_loopw [4] (fun t wr=>∃k:Nat,k<=2/\t=.int .i64 k/\og wr Z n (aW s.B k) false/\Below Z w wr) (fun t _=>2 - (intOf t).toNat)
 case atStart=>exact⟨0,by omega,rfl,C1,by rw[G.out];exact B1⟩
 case round =>
  obtain⟨k,hk,rfl,hc,hb⟩:=hrel;have z:Hid (og wr Z n (aW s.B k) false):=hc;have P:Hid (Below Z w wr):=hb;clear hc hb;by_cases f:k < 2
  ·have RR:Hid (fG wr n s lv):=HR.below (by rw[<- G.out];exact P);have b0:=RR.c0;have zS:(stB s.B).size=64:=m.out;obtain⟨p,hp⟩:∃p,p=20 * k:=⟨_,rfl⟩;have HT:Hid ((stB s.B).extract p (p+17)=stB (kU s.B k)):=by
    show _=_;rw[Bo,hp];unfold kU;rw[show 20 * k+17 - 20 * k=17 from by omega]
   have Zh:(20:Int) * (k:Int)=(p:Int):=by omega
   have p1:(p:Int)<=20:=by omega
   have p2:(p:Int)+17<=64:=by omega
   have p3:(p:Int)<=(p:Int)+17:=by omega
   have p4:((p:Int)+17).toNat=p+17:=by omega
   have p5:(0:Int)<=(p:Int)+17:=by omega
   have zT:(stB (kU s.B k)).size=17:=uN m k f;have W:Hid (∀u,Calls prog 59 #[.string ((stB (kU s.B k)).extract 0 4)] u fun e w'=>e=.returned (.int .i64 (aX s.B k).n)/\w'=u):=fun u=>by
    rw[Bo,afh m.out k f];have:=yT ((kU s.B k).drop 0 |>.take (4 - 0)) (by simp[uN m.out k f]) u;rw[show 4 - 0=4 from rfl,zx]at this;exact this
   have H:Hid (∀u,Calls prog 59 #[.string ((stB (kU s.B k)).extract 4 8)] u fun e w'=>e=.returned (.int .i64 (aX s.B k).e)/\w'=u):=fun u=>by
    rw[Bo,afh m.out k f];have:=yT ((kU s.B k).drop 4 |>.take (8 - 4)) (by simp[uN m.out k f]) u;rw[show 8 - 4=4 from rfl,zx]at this;exact this
   have J:Hid (∀u,Calls prog 59 #[.string ((stB (kU s.B k)).extract 8 12)] u fun e w'=>e=.returned (.int .i64 (aX s.B k).l)/\w'=u):=fun u=>by
    rw[Bo,afh m.out k f];have:=yT ((kU s.B k).drop 8 |>.take (12 - 8)) (by simp[uN m.out k f]) u;rw[show 12 - 8=4 from rfl,zx]at this;exact this
   have q:=JO s.B k;have BO:Hid (∀u,Calls prog 60 #[(aX s.B k).n,(aX s.B k).e,(aX s.B k).l] u fun e w'=>e=.returned (.string (stB (img (aX s.B k))))/\Below u u w'):=fun u=>Gl (aX s.B k) q.1 q.2.1 q.2.2 u;have HH:Hid (bC s.B k=((stB (img (aX s.B k))++stB [165]).toList==(stB (kU s.B k)).toList && decide (1<=(aX s.B k).n) && (aX s.B k).n % 2==k)):=by
    show _=_;rw[o7];exact afi m k f
   have HN:Hid (aW s.B (k+1)=if bC s.B k=true/\¬(aX s.B k).n < (aW s.B k).n then aX s.B k else aW s.B k):=afj k f;have zI:(stB (img (aX s.B k))).size=16:=rfl;generalize stB (kU s.B k)=T at *;generalize stB (img (aX s.B k))=I at *;generalize stB s.B=S at *;generalize aX s.B k=x at *;generalize aW s.B k=y at *;generalize bC s.B k=held at *;have c1:=z.c1;have c2:=z.c2;have c3:=z.c3;have cf:=fun i=>z.fr i;clear hp q;go_wp2_with fail;rw[HT.out];refine(W _).mono ?_;rintro e w' ⟨rfl,X⟩;obtain rfl:=X.symm;clear HT b0 zS;by_cases K:x.n < 1\/x.n % 2≠k\/x.n < y.n
   ·have j:Hid (aW s.B (k+1)=y):=by
     show _=_;rw[HN.out,ak];rintro⟨h1,h2⟩;rw[HH.out]at h1;simp at h1;omega
    have Y:(x.n:Int) < 1\/(¬(x.n:Int) < 1/\((x.n:Int) % 2 != (k:Int))=true)\/(¬(x.n:Int) < 1/\((x.n:Int) % 2 != (k:Int))=false/\(x.n:Int) < (y.n:Int)):=by
     by_cases a:(x.n:Int) < 1
     ·exact .inl a
     ·by_cases c:(x.n:Int) % 2=(k:Int)
      ·exact .inr (.inr ⟨a,by simp[c],by omega⟩)
      ·exact .inr (.inl ⟨a,by simp[c]⟩)
    clear K;rcases Y with g1 | ⟨g1,g2⟩ | ⟨g1,g2,g3⟩;all_goals
     go_wp2_with fail;exact⟨⟨k+1,by omega,by go_num,by rw[j.out];exact z,P⟩,by simp[intOf];omega⟩
   ·have g1:¬(x.n:Int) < 1:=by omega
    have g2:((x.n:Int) % 2 != (k:Int))=false:=by
     have:(x.n:Int) % 2=(k:Int):=by omega
     simp[this]
    have g3:¬(x.n:Int) < (y.n:Int):=by omega
    have L:Hid (aW s.B (k+1)=if ((I++stB [165]).toList==T.toList)=true then x else y):=by
     show _=_;rw[HN.out,HH.out];have e1:decide (1<=x.n)=true:=gG om;have e2:(x.n % 2==k)=true:=xI.2 om;have e3:¬x.n < y.n:=by omega
     rw[e1,e2,Bool.and_true,Bool.and_true];by_cases Q:((I++stB [165]).toList==T.toList)=true
     ·rw[aj ⟨Q,e3⟩,aj Q]
     ·rw[ak (fun h=>Q h.1),ak Q]
    clear K;have Zg:(stB [165]).size=1:=rfl;have BY:Hid (∀u,Calls prog 61 #[.int .i64 165] u fun e w'=>e=.returned (.string (stB [165]))/\Below u u w'):=Rw;generalize stB [165]=V at *;have hz:¬9223372036854775807 < I.size+V.size:=by omega
    generalize hD:((I++V).toList==T.toList)=D at *;have hS:Below wr wr wr.drew:=bD;go_wp2_with fail;go_region_held3 (fun w'=>Below wr wr w') (first | assumption | exact t2 az az)
     (first
      | (go_at_call_of 59 (Value.string (T.extract 4 8));refine(H _).mono ?_;rintro e v1 ⟨rfl,E⟩;obtain rfl:=E.symm)
      | (go_at_call_of 59 (Value.string (T.extract 8 12));refine(J _).mono ?_;rintro e v2 ⟨rfl,E⟩;obtain rfl:=E.symm)
      | (go_at_call 60;refine(BO _).mono ?_;rintro e v3 ⟨rfl,M⟩;have A:=t2 hS M)
      | (go_at_call 61;refine(BY _).mono ?_;rintro e v4 ⟨rfl,N⟩;have C:=t2 A N))
    have B4:Hid (Below wr wr v4):=C;have F:Hid (og v4 Z n y false):=z.below B4;have X4:Hid (Below Z w v4):=P.trans (B4.mono (by have:=z.lt;omega));clear M A N C hS c1 c2 c3 cf;have c1:=F.c1;have c2:=F.c2;have c3:=F.c3;have cf:=fun i=>F.fr i
    cases D
    ·have j:Hid (aW s.B (k+1)=y):=L.out;go_wp2_with fail;exact⟨⟨k+1,by omega,by go_num,by rw[j.out];exact F,X4⟩,by simp[intOf];omega⟩
    ·have j:Hid (aW s.B (k+1)=x):=L.out;go_wp2_with (first
      | (go_at_call_of 59 (Value.string (T.extract 4 8));refine(H _).mono ?_;rintro e v1 ⟨rfl,E⟩;obtain rfl:=E.symm)
      | (go_at_call_of 59 (Value.string (T.extract 8 12));refine(J _).mono ?_;rintro e v2 ⟨rfl,E⟩;obtain rfl:=E.symm))
     refine⟨⟨k+1,by omega,by go_num,?_,?_⟩,by simp[intOf];omega⟩
     ·rw[j.out];exact F.put x
     ·exact((X4.setCell nL _).setCell nL _).setCell nL _
  ·have HK:Hid (k=2):=(show k=2 by omega);go_wp2_with fail;go_ret;refine⟨⟨by rw[<- G.out];rfl,?_⟩,by rw[<- G.out];exact P⟩;rw[<- G.out];have:=z.out;rw[HK.out]at this;exact this
theorem aay {s:By} (o:s.B.length=64) (h:(bn false s (newest s.B).e ((newest s.B).l+1)).1=0):(newest (bn false s (newest s.B).e ((newest s.B).l+1)).2.1.B).e=(newest s.B).e/\(newest (bn false s (newest s.B).e ((newest s.B).l+1)).2.1.B).l=(newest s.B).l+1/\(newest s.B).e<=1073741824:=by
 have p:=oN s.B;revert h
 unfold bn;by_cases a:lX ((newest s.B).e:Int) (((newest s.B).l:Int)+1)=true
 ·rw[ak sM,aj a];intro h;cases h
 rw[ak sM,ak a];by_cases j:mX s ((newest s.B).e:Int) (((newest s.B).l:Int)+1)=true
 ·rw[aj j];intro h;cases h
 rw[ak j];by_cases k:(newest s.B).n=4294967295
 ·rw[aj k];intro h;cases h
 rw[ak k];have q:nN ((newest s.B).e:Int)=true/\nN (((newest s.B).l:Int)+1)=true:=by
  unfold lX at a;constructor
  ·cases i:nN ((newest s.B).e:Int)
   ·rw[i]at a;simp at a
   ·rfl
  ·cases i:nN (((newest s.B).l:Int)+1)
   ·rw[i]at a;simp at a
   ·rfl
 have i:((newest s.B).e:Int)<=1073741824/\((newest s.B).l:Int)+1<=1073741824:=by
  obtain⟨f,m⟩:=q;unfold nN at f m;simp at f m;omega
 have u:=sW (s:=s) (x:=aY s (newest s.B).e ((newest s.B).l+1)) o rfl (by show(newest s.B).n+1 < _;omega) (by show((newest s.B).e:Int).toNat < _;omega) (by show(((newest s.B).l:Int)+1).toNat < _;omega);by_cases f:(dw s (aY s (newest s.B).e ((newest s.B).l+1))).2=true
 ·rw[aj f];intro _;show(newest (dw s (aY s (newest s.B).e ((newest s.B).l+1))).1.B).e=_/\(newest (dw s (aY s (newest s.B).e ((newest s.B).l+1))).1.B).l=_/\_;rw[(u.1 f).1];refine⟨?_,?_,by omega⟩
  ·show((newest s.B).e:Int).toNat=_;omega
  ·show(((newest s.B).l:Int)+1).toNat=_;omega
 ·rw[ak f];intro h;cases h
def MK (wc a:World) (h k:Nat) (ep:Int) (l:Value) (v:Value):Prop:=∃nd ro e i m f j o,v=.pointer (some ⟨nd,0,none⟩) /\
 a.heap[nd]? = some (.cells #[h,.int .i64 0,.pointer (some (k,0)),.pointer (some (ro,0)),.pointer (some (e,0)),.pointer none,.pointer (some (f,0)),l] 81 (0,0)) /\
 dJ a ro ⟨h,ep,0,false⟩/\RTab a e i m (2000+h * 24) newT/\kN a f j o 0 newT/\Below wc wc a /\
 (wc.heap.size<=nd/\wc.heap.size<=ro/\wc.heap.size<=e/\wc.heap.size<=i/\wc.heap.size<=f/\wc.heap.size<=j)/\[nd,ro,e,i,f,j].Nodup
theorem MK.mk {wc j:World} {k l:Nat} {ep:Int} {m:Value} {nd ro e h o f i p:Nat}
  (u:j.heap[nd]? = some (.cells #[k,.int .i64 0,.pointer (some (l,0)),.pointer (some (ro,0)),.pointer (some (e,0)),.pointer none,.pointer (some (f,0)),m] 81 (0,0)))
  (w:dJ j ro ⟨k,ep,0,false⟩) (q:RTab j e h o (2000+k * 24) newT) (s:kN j f i p 0 newT) (x:Below wc wc j)
  (y:wc.heap.size<=nd/\wc.heap.size<=ro/\wc.heap.size<=e/\wc.heap.size<=h/\wc.heap.size<=f/\wc.heap.size<=i)
  (z:(nd≠ro/\nd≠e/\nd≠h/\nd≠f/\nd≠i)/\(ro≠e/\ro≠h/\ro≠f/\ro≠i)/\(e≠f/\e≠i)/\(h≠f/\h≠i)):MK wc j k l ep m (.pointer (some (nd,0))) :=
 ⟨nd,ro,e,h,o,f,i,p,rfl,u,w,q,s,x,y,by
  have a:=q.ne;have b:=s.ne;simp only[List.nodup_cons,dI,eY,fA,not_or,ab8,List.nodup_nil,and_true];omega⟩
theorem kN.new {w:World} {g cap:Nat} (h:jl w g newT):kN (w.alloc (.cells #[.int .i64 0,.slice (some (g,0)) 32 cap] 88)) w g cap 0 newT :=
 ⟨nw _ _ _ _,nw _ _ _ _,jk _ _ _ _ _ (dh _ _),jk _ _ _ _ _ (dh _ _),h.below (aB _ _),by have:=h.lt;omega⟩
theorem dJ.new (w:World) (a:Nat) (ep:Int):dJ (w.alloc (.cells #[a,ep,.int .i64 0,.bool false] 74)) w ⟨a,ep,0,false⟩:=dh _ _
theorem yA {w0 w:World} (id:Nat) (Zw:id < 2) (yb:Nat) (y:By) (lo:Int) (p:Option Addr) (cap:Nat) (l:List Rl) (X:∃lv,fG w yb y lv/\(y.cut=true->lv=y.left)/\lo<=lv/\lv<=9223372036854775807) (Zg : -900000000<=lo) (hB:y.B.length=64) (Zh:w0.heap.size<=yb) (bl:Below w0 w0 w) (R:oQ w p l) (hl:l.length<=1000) (hp:l≠[]->∀a,p=some a->a.block < w0.heap.size) :
  Calls prog 15 #[id,.pointer (some (yb,0)),.slice p l.length cap] w fun e w'=>((∃n,n≠0/\n=(bn false y (newest y.B).e ((newest y.B).l+1)).1/\e=.returned (.tuple #[.pointer none,.int .i64 (n:Nat)]))\/((bn false y (newest y.B).e ((newest y.B).l+1)).1=0/\∃r,e=.returned (.tuple #[.pointer (some ⟨r.nd,0,none⟩),.int .i64 0])/\r.yb=yb/\(∀g ∈ r.all,g=yb\/w.heap.size<=g)/\bH w0 w' r (No.new id y l) ⟨id,(newest y.B).e,0,false⟩ (lo - 20) 0 0))/\ay [yb] w w':=by
 obtain⟨lv,Zi,Zj,Zk,Zl⟩:=X;have HY:Hid (fG w yb y lv):=Zi;have O:Hid ((y.cut=true->lv=y.left)/\lo<=lv/\lv<=9223372036854775807 /\ -900000000<=lo/\y.B.length=64):=⟨Zj,Zk,Zl,Zg,hB⟩;have Zx:Hid (w0.heap.size<=yb):=Zh;have Zm:Hid (Below w0 w0 w):=bl;have HR:Hid (oQ w p l):=R;have HP:Hid (l.length<=1000/\(l≠[]->∀a,p=some a->a.block < w0.heap.size)):=⟨hl,hp⟩;clear Zi Zj Zk Zl Zg hB Zh bl R hl hp;obtain⟨PE,P⟩:∃PE,bn false y (newest y.B).e ((newest y.B).l+1)=PE:=⟨_,rfl⟩;have z:Hid (bn false y (newest y.B).e ((newest y.B).l+1)=PE):=P;simp only[P];clear P;go_enter func15,ntmps15;go_wp2_with fail;refine(Vr yb y lv w HY O.2.2.2.2).mono ?_;rintro e E ⟨⟨rfl,c1⟩,Q⟩;have LY:Hid (yb < w.heap.size):=HY.lt;have Zy:Hid (w.heap.size<=w.heap.size):=bJ _;have B1:Hid (Below w w E):=Q;have Y1:Hid (fG E yb y lv):=HY.below Q;generalize Zn:w.heap.size=ce at c1 Zy ⊢;have C1:Hid (og E ce yb (newest y.B) false):=c1;have S:Hid (w.heap.size=ce):=Zn;clear c1 Q Zn;have e2:E.cell? (ce,2)=(newest y.B).e:=(aP E ce _ _ _ _ C1).trans rfl;have e3:E.cell? (ce,3)=(newest y.B).l:=(aP E ce _ _ _ _ C1).trans rfl;have Zz:IntKind.i64.wrap (((newest y.B).l:Int)+1)=((newest y.B).l:Int)+1:=by have:=(oN y.B).2.2;rw[iI];omega
 go_wp2_with fail;go_cut [9] (fun t wx=>t=.int .i64 ((PE.1:Nat):Int)/\RS E wx yb ce PE.2.1 (newest PE.2.1.B) PE.2.2 (lo - 20))
 case first =>
  have R1:Hid (RS E E.drew yb ce y (newest y.B) false lo):=⟨⟨lv,(Y1.below bD),O.1,O.2.1,O.2.2.1⟩,(C1.below bD),by have:=LY.out;have:=S.out;omega,O.2.2.2.2,bW.of bD⟩;go_region_with (go_at_call 36;refine(J8 R1 rfl (newest y.B).e ((newest y.B).l+1) O.2.2.2.1).mono ?_;rintro e w2 ⟨rfl,n2⟩;rw[z.out]at n2;rw[z.out];have N2:Hid (RS E w2 yb ce PE.2.1 (newest PE.2.1.B) PE.2.2 (lo - 20)):=n2;clear n2)
  all_goals (go_wp2_with fail)
  all_goals go_meet
  all_goals exact⟨rfl,N2⟩
 case rest =>
  obtain⟨rfl,A⟩:=hcut;have R2:Hid (RS E wc yb ce PE.2.1 (newest PE.2.1.B) PE.2.2 (lo - 20)):=A;have K2:Hid (ay [yb] w wc):=(ay.of (l:=[yb,ce]) B1 |>.trans ⟨A.x.os,A.x.tape,A.x.output,A.x.size,fun k hk Y=>A.x.block k hk (fun e=>Y (by simp[e])) (fun e=>Y (by simp[e]))⟩).mono (fun q hq=>by simp at hq;rcases hq with rfl | rfl;exact Or.inl sM;exact Or.inr (by rw[S.out];exact bJ _));clear A e2 e3 Zz C1 Y1;by_cases hz:PE.1=0
  rotate_left
  ·have ZB:(0:Int) < ((PE.1:Nat):Int):=by omega
   have Z:Hid (PE.1≠0):=hz;clear hz;obtain⟨n,Y⟩:∃n,PE.1=n:=⟨_,rfl⟩;have ZC:Hid (n=PE.1):=Y.symm;rw[Y]at ZB Z ⊢;clear Y;go_wp2_with fail;go_ret2;exact⟨Or.inl ⟨n,Z,ZC,rfl⟩,K2⟩
  ·rw[hz];have Z:Hid (PE.1=0):=hz;clear hz;go_wp2_with fail;have T:=aay (s:=y) O.2.2.2.2 (by rw[z.out];exact Z);rw[z.out]at T;have U:Hid ((newest PE.2.1.B).e=(newest y.B).e/\(newest PE.2.1.B).l=(newest y.B).l+1/\(newest y.B).e<=1073741824):=T;clear T;obtain⟨ep,G⟩:∃ep:Int,((newest PE.2.1.B).e:Int)=ep:=⟨_,rfl⟩;have ZE:Hid (((newest PE.2.1.B).e:Int)=ep):=G;have hS:wc.drew.cell? (ce,2)=ep:=by rw[<- G];exact(aP wc ce _ _ _ _ R2.c).trans rfl
   clear G;obtain⟨wb,rfl⟩:∃wb,wb=wc:=⟨_,rfl⟩;go_cut [10] (fun t wx=>MK wb wx id ce ep (.slice p l.length cap) t)
   case first =>
    go_region_held3 (fun w'=>w'.cell? (ce,2)=ep)
     (first | exact hS | assumption | exact tk (aB _ _) az)
     (first
      | (go_at_call 37;refine(Zd id _ Zw).mono ?_;rintro e w3 ⟨⟨tb,V,tc,rfl,ZF,ZG,I⟩,H⟩;have s3:w3.cell? (ce,2)=ep:=tk H az)
      | (go_at_call 38;refine(empty_any _).mono ?_;rintro e w4 ⟨⟨i,o,rfl,ZH,t4⟩,u⟩;have s4:w4.cell? (ce,2)=ep:=tk u az))
    all_goals
     have l1:=eF I.c0;have l2:=I.sl.lt;have l3:=t4.lt;have l4:=H.size;have l5:=u.size;simp only[World.drew,TG]at l1 l2 l3 l4 l5 ZF ZG ZH
    ·have C:=I.below u;have h:=(((dJ.new wb id ep).below bD).below H).below u;have k1:=aB w4 (.cells #[.int .i64 0,.slice (some (i,0)) 32 o] 88);have k2:=aB (w4.alloc (.cells #[.int .i64 0,.slice (some (i,0)) 32 o] 88)) (.cells #[id,.int .i64 0,.pointer (some (ce,0)),.pointer (some (wb.heap.size,0)),.pointer (some (tb,0)),.pointer none,.pointer (some (w4.heap.size,0)),.slice p l.length cap] 81);have f:=dh (w4.alloc (.cells #[.int .i64 0,.slice (some (i,0)) 32 o] 88)) (.cells #[id,.int .i64 0,.pointer (some (ce,0)),.pointer (some (wb.heap.size,0)),.pointer (some (tb,0)),.pointer none,.pointer (some (w4.heap.size,0)),.slice p l.length cap] 81);simp only[TG]at f;have D:Below wb wb w4:=t2 (t2 (t2 (aB _ _) bD) H) u;clear H u I hS s3 s4;go_wp2_with fail;go_meet
     case rel=>exact MK.mk f ((h.below k1).below k2) ((C.below k1).below k2) ((kN.new t4).below k2) (t2 (t2 D k1) k2) om om
    ·have C:=(I.below (aB _ _)).below u;have h:=(dJ.new w3 id ep).below u;have k1:=aB w4 (.cells #[.int .i64 0,.slice (some (i,0)) 32 o] 88);have k2:=aB (w4.alloc (.cells #[.int .i64 0,.slice (some (i,0)) 32 o] 88)) (.cells #[id,.int .i64 0,.pointer (some (ce,0)),.pointer (some (w3.heap.size,0)),.pointer (some (tb,0)),.pointer none,.pointer (some (w4.heap.size,0)),.slice p l.length cap] 81);have f:=dh (w4.alloc (.cells #[.int .i64 0,.slice (some (i,0)) 32 o] 88)) (.cells #[id,.int .i64 0,.pointer (some (ce,0)),.pointer (some (w3.heap.size,0)),.pointer (some (tb,0)),.pointer none,.pointer (some (w4.heap.size,0)),.slice p l.length cap] 81);simp only[TG]at f;have D:Below wb wb w4:=t2 (t2 (t2 bD H) (aB _ _)) u;clear H u I hS s3 s4;go_wp2_with fail;go_meet
     case rel=>exact MK.mk f ((h.below k1).below k2) ((C.below k1).below k2) ((kN.new t4).below k2) (t2 (t2 D k1) k2) om om
    ·have C:=I.below u;have k0:=aB w4 (.cells #[id,ep,.int .i64 0,.bool false] 74);have k1:=aB (w4.alloc (.cells #[id,ep,.int .i64 0,.bool false] 74)) (.cells #[.int .i64 0,.slice (some (i,0)) 32 o] 88);have k2:=aB ((w4.alloc (.cells #[id,ep,.int .i64 0,.bool false] 74)).alloc (.cells #[.int .i64 0,.slice (some (i,0)) 32 o] 88)) (.cells #[id,.int .i64 0,.pointer (some (ce,0)),.pointer (some (w4.heap.size,0)),.pointer (some (tb,0)),.pointer none,.pointer (some (w4.heap.size+1,0)),.slice p l.length cap] 81);have h:=dJ.new w4 id ep;have m:=kN.new (cap:=o) (t4.below k0);have f:=dh ((w4.alloc (.cells #[id,ep,.int .i64 0,.bool false] 74)).alloc (.cells #[.int .i64 0,.slice (some (i,0)) 32 o] 88)) (.cells #[id,.int .i64 0,.pointer (some (ce,0)),.pointer (some (w4.heap.size,0)),.pointer (some (tb,0)),.pointer none,.pointer (some (w4.heap.size+1,0)),.slice p l.length cap] 81);simp only[TG]at f m;have D:Below wb wb w4:=t2 (t2 bD H) u;clear H u I hS s3 s4;go_wp2_with fail;go_meet
     case rel=>exact MK.mk f ((h.below k1).below k2) (((C.below k0).below k1).below k2) (m.below k2) (t2 (t2 (t2 D k0) k1) k2) om om
    ·have C:=I.below u;have k0:=aB w4 (.cells #[.int .i64 0,.slice (some (i,0)) 32 o] 88);have k1:=aB (w4.alloc (.cells #[.int .i64 0,.slice (some (i,0)) 32 o] 88)) (.cells #[id,ep,.int .i64 0,.bool false] 74);have k2:=aB ((w4.alloc (.cells #[.int .i64 0,.slice (some (i,0)) 32 o] 88)).alloc (.cells #[id,ep,.int .i64 0,.bool false] 74)) (.cells #[id,.int .i64 0,.pointer (some (ce,0)),.pointer (some (w4.heap.size+1,0)),.pointer (some (tb,0)),.pointer none,.pointer (some (w4.heap.size,0)),.slice p l.length cap] 81);have h:=dJ.new (w4.alloc (.cells #[.int .i64 0,.slice (some (i,0)) 32 o] 88)) id ep;have m:=kN.new (cap:=o) t4;have f:=dh ((w4.alloc (.cells #[.int .i64 0,.slice (some (i,0)) 32 o] 88)).alloc (.cells #[id,ep,.int .i64 0,.bool false] 74)) (.cells #[id,.int .i64 0,.pointer (some (ce,0)),.pointer (some (w4.heap.size+1,0)),.pointer (some (tb,0)),.pointer none,.pointer (some (w4.heap.size,0)),.slice p l.length cap] 81);simp only[TG]at f h;have D:Below wb wb w4:=t2 (t2 bD H) u;clear H u I hS s3 s4;go_wp2_with fail;go_meet
     case rel=>exact MK.mk f (h.below k2) (((C.below k0).below k1).below k2) ((m.below k1).below k2) (t2 (t2 (t2 D k0) k1) k2) om om
   case rest =>
    have HN:Hid (MK wb wc id ce ep (.slice p l.length cap) u10):=hcut;clear hcut hS;obtain⟨nd,ro,tb,V,tc,mi,i,o,rfl,f,h,J,m,Zp,Zq,Zr⟩:=HN.out;have T3:Hid (RTab wc tb V tc (2000+(id:Int) * 24) newT):=J;have c4:wc.cell? (nd,4)=some (.pointer (some (tb,0))):=(aP _ _ _ _ _ _ f).trans rfl;have c5:wc.cell? (nd,5)=some (.pointer none):=(aP _ _ _ _ _ _ f).trans rfl;have f5:wc.frozen? (nd,5)=false:=jk _ _ _ _ _ f;have G3:Hid (_/\_/\_/\_/\_/\_):=⟨f,h,m,Zp,Zq,Zr⟩;clear f h J m Zp Zq Zr HN;go_wp2_with fail;refine(aad tb wc).mono ?_;rintro e F ⟨⟨te,th,rfl,K,Zt,L⟩,M⟩;have T6:Hid (oq F te tb th (fun _=>0) 0/\wc.heap.size<=te/\wc.heap.size<=th/\te < F.heap.size/\th < F.heap.size):=⟨L,K,Zt,eF L.c0,L.a.lt⟩;have B6:Hid (Below wc wc F):=M;have ZJ:=tk M c5;have ZK:F.frozen? (nd,5)=false:=(aV (M.block nd (eF c4))).trans f5;clear K Zt L M c5 f5 c4;go_wp2_with fail;go_ret2;obtain⟨g1,g2,g4,g5,g6,g7⟩:=G3.out;have n1:=eF T3.c0;have n2:=T3.sl.lt;have n3:=g2.lt;have n4:=eF g4.c0;have n5:=g4.sl.lt;have n6:nd < wc.heap.size:=eF ((aP wc nd 0 _ _ _ g1).trans rfl:wc.cell? (nd,0)=id);have n7:=R2.c.lt;obtain⟨ZL,y1,y2⟩:=R2.r;have n8:=y1.lt;have n9:=R2.ne;have ZM:=K2.size;have ZN:=Zm.size;have ZO:=Zx.out;have ZP:=S.out;have ZQ:=T6.out;have ZR:=T6.1.ne;have ZT:=T3.ne;have ZU:=g4.ne;have ZV:=B6.size;have ZW:=g5.size;simp only at n1 n4;have ZX:(nd≠ro/\nd≠tb/\nd≠V/\nd≠mi/\nd≠i)/\(ro≠tb/\ro≠V/\ro≠mi/\ro≠i)/\(tb≠mi/\tb≠i)/\(V≠mi/\V≠i):=by
     simp only[List.nodup_cons,dI,eY,fA,not_or,ab8,List.nodup_nil,and_true]at g7;omega
    have cS:aC nd F (F.setCell (nd,5) (.pointer (some (te,0)))):=aC.set _ _ _ _;have h6:=(B6.block nd n6).trans g1;have N:(F.setCell (nd,5) (.pointer (some (te,0)))).heap[nd]? = some (.cells #[id,.int .i64 0,.pointer (some (ce,0)),.pointer (some (ro,0)),.pointer (some (tb,0)),.pointer (some (te,0)),.pointer (some (mi,0)),.slice p l.length cap] 81 (0,0)):=by
     rw[bV F nd _ _ _ _ h6];rfl
    have Zu:Below wb wb (F.setCell (nd,5) (.pointer (some (te,0)))):=aC.below (t2 g5 B6) cS om;have KW:ay [yb] w (F.setCell (nd,5) (.pointer (some (te,0)))):=K2.then Zu;have RW:=R2.below Zu;have h:=(g2.below B6).dO cS om;have J:=(T3.below B6).dO cS om om;have m:=(g4.below B6).gZ (cS.block mi om om) (cS.block i om om);have K:=T6.1.gZ (cS.block te om om) (cS.block th om om);generalize F.setCell (nd,5) (.pointer (some (te,0)))=W at *;have X:(No.new id y l).y=PE.2.1:=by show(bn false y (newest y.B).e ((newest y.B).l+1)).2.1=_;rw[z.out]
    have Zv:PE.2.2=false:=by rw[<- z.out];exact DT (by rw[z.out];exact Z)
    have G:ep=((newest y.B).e:Int):=by rw[<- ZE.out,U.1]
    refine⟨Or.inr ⟨Z,⟨nd,ce,yb,ro,tb,V,te,th,mi,i,tc,o,p,cap⟩,rfl,rfl,fun g hg=>by simp only[fC.all,dI,eY,fA]at hg;omega,?_⟩,KW⟩;exact {
     nd:=⟨(aP W nd _ _ _ _ N).trans rfl,(aP W nd _ _ _ _ N).trans rfl,(aP W nd _ _ _ _ N).trans rfl,(aP W nd _ _ _ _ N).trans rfl,(aP W nd _ _ _ _ N).trans rfl,(aP W nd _ _ _ _ N).trans rfl,(aP W nd _ _ _ _ N).trans rfl,(aP W nd _ _ _ _ N).trans rfl,fun j _=>jk _ _ _ _ _ N⟩
     ro:=by rw[<- G];exact h
     sm:=Fj.new om om (by have:=U.2.2;omega)
     yb:=by rw[X];exact RW.r
     ce:=by rw[X,show(No.new id y l).off=PE.2.2 from Zv.symm];exact RW.c
     lf:=by rw[X,U.2.1];show((newest y.B).l:Int)+1=_;omega
     len:=by rw[X];exact RW.len
     tb:=J
     vs:=gI.new
     te:=K
     cu:=by show 0 < 32;omega
     mi:=m
     ru:=HR.kept (fun ZI a ha=>by
      have:=HP.2 ZI a ha;exact KW.block _ om (by simp;omega))
     rl:=HP.1
     rb:=HP.2
     ds:=by
      simp only[fC.all,List.nodup_cons,dI,eY,fA,not_or,ab8,List.nodup_nil,and_true];omega
     g0:=fun g hg=>by simp only[fC.all,dI,eY,fA]at hg;omega
     id:=by show(id:Int)=0\/(id:Int)=1;omega
     bl:=ay.below Zm KW (fun g hg=>by simp at hg;omega)}
section
variable {w w' w0:World} {g u u' i:Nat} {f:Nat->Value}
structure RK where
 wb:Nat
 nb:Nat
 nc:Nat
 bb:Nat
 bc:Nat
 nk:Nat->Option fC
 yk:Nat->Nat
 rp:Option Addr
 rc:Nat
 lv:Value
 ev:Value
 cv:List Value
 tag:Nat->Nat
def RK.nv (D:RK) (i:Nat):Value:=.pointer ((D.nk i).map fun r=>(r.nd,0))
def RK.side (D:RK) (i:Nat):List Nat:=match D.nk i with | some r=>r.all | none=>[D.yk i]
def Wo.to (W:Wo):Int:=if W.he=0 then -1 else W.hn
def Qo (w:World) (D:RK) (W:Wo):Prop:=w.heap[D.wb]? = some (.cells #[.slice (some (D.nb,0)) 2 D.nc,.slice (some (D.bb,0)) 2 D.bc,.slice D.rp W.ru.length D.rc,D.lv,W.to,W.he,D.ev] 57 (0,0))
structure MN (w:World) (g:Nat) (f:Nat->Value):Prop where
 c:∀i,i < 2->w.cell? ⟨g,i,none⟩=some (f i)
 fr:∀i,i < 2->w.frozen? ⟨g,i,none⟩=false
def pV (u:Nat):Int := -(20 * ((u:Int)+1))
def WB (w0 w:World) (D:RK) (W:Wo) (u i:Nat):Prop :=
 (∃r x q,D.nk i=some r/\W.nd i=some x/\bH w0 w r x q (pV u) u (33 * u)/\r.yb=D.yk i/\0<=x.now/\x.now<=u/\x.id=i) \/
 (∃lv,D.nk i=none/\W.nd i=none/\fG w (D.yk i) (W.yb i) lv/\((W.yb i).cut=true->lv=(W.yb i).left)/\pV u<=lv/\lv<=9223372036854775807/\(W.yb i).B.length=64)
def Oe (w:World) (D:RK) (t:Nf) (v:Value):Prop:=(∃p cap,v=.slice p t.cs.length cap/\vJ w p t.cs/\(t.cs≠[]->∀g o,p=some ⟨g,o,none⟩->D.tag g=5))/\t.cs.length<=8/\(t.fr=0\/t.fr=1)
structure RFl (w:World) (D:RK) (W:Wo):Prop where
 len:D.cv.length=W.fl.length
 le:W.fl.length<=200
 ok:∀(i:Nat) t v,W.fl[i]? = some t->D.cv[i]? = some v->Oe w D t v
 own:w.ownsRow 0 106 5 D.lv W.fl.length (gW W.fl D.cv).flatten
structure REv (w:World) (D:RK) (W:Wo):Prop where
 le:W.ev.length<=1000
 own:w.ownsRow 0 113 2 D.ev W.ev.length (yt W.ev)
structure cZ (w0 w:World) (D:RK) (W:Wo) (u:Nat):Prop where
 wb:Qo w D W
 nb:MN w D.nb D.nv
 bb:MN w D.bb (fun i=>.pointer (some (D.yk i,0)))
 s:∀i,i < 2->WB w0 w D W u i
 ru:oQ w D.rp W.ru
 rl:W.ru.length<=1000
 rb:W.ru≠[]->∀a,D.rp=some a->a.block < w0.heap.size
 fl:RFl w D W
 ev:REv w D W
 tw:D.tag D.wb=0/\D.tag D.nb=6/\D.tag D.bb=7
 ts:∀i,i < 2->∀b ∈ D.side i,D.tag b=i+1
 tl:∀g,D.lv.ownBlock=some g->D.tag g=3
 te:∀g,D.ev.ownBlock=some g->D.tag g=4
 g0:∀b,D.tag b≠9->w0.heap.size<=b
 al:∀b,w.heap.size<=b->D.tag b=9
 bl:Below w0 w0 w
theorem Qo.lt {D:RK} {W:Wo} (h:Qo w D W):D.wb < w.heap.size:=by
 rcases dX D.wb w with a | a
 ·exact a
 ·unfold Qo at h;rw[eP a]at h;cases h
theorem Qo.c {D:RK} {W:Wo} (h:Qo w D W) (i:Nat):w.cell? (D.wb,i)=(#[.slice (some (D.nb,0)) 2 D.nc,.slice (some (D.bb,0)) 2 D.bc,.slice D.rp W.ru.length D.rc,D.lv,W.to,W.he,D.ev]:Array Value)[i]? := aP w _ _ _ _ _ h
theorem Qo.fr {D:RK} {W:Wo} (h:Qo w D W) (i:Nat):w.frozen? (D.wb,i)=false:=jk w _ i _ _ h
theorem Qo.kept {D:RK} {W:Wo} (h:Qo w D W) (e:w'.heap[D.wb]? = w.heap[D.wb]?):Qo w' D W:=by unfold Qo;rw[e];exact h
theorem MN.lt (h:MN w g f):g < w.heap.size:=eF (h.c 0 om)
theorem MN.kept (h:MN w g f) (e:w'.heap[g]? = w.heap[g]?):MN w' g f :=
 ⟨fun i a=>by rw[dV (w:=w) e];exact h.c i a,fun i a=>by rw[sO (w:=w) e];exact h.fr i a⟩
theorem MN.as {f':Nat->Value} (h:MN w g f) (e:∀i,i < 2->f' i=f i):MN w g f':=⟨fun i a=>by rw[e i a];exact h.c i a,h.fr⟩
theorem MN.put (h:MN w g f) {i:Nat} (k:i < 2) (v:Value):MN (w.setCell (g,i) v) g (aQ f i v):=by
 refine⟨fun j a=>?_,fun j a=>(xB _ _ _ _).trans (h.fr j a)⟩;by_cases e:j=i
 ·subst e;rw[aG];exact WO w _ _ (by rw[h.c j a];rfl)
 ·rw[aI _ _ e];exact(lT _ _ _ _ (by simp <;> omega)).trans (h.c j a)
theorem Ew (h:u<=u'):pV u'<=pV u:=by unfold pV;omega
theorem bH.upto {r:fC} {x:No} {q:Ro} (h:bH w0 w r x q (pV u) u (33 * u)) (e:u<=u'):bH w0 w r x q (pV u') u' (33 * u'):=by
 obtain⟨lv,a,b,c,d⟩:=h.yb;exact {h with yb:=⟨lv,a,b,by have:=Ew e;omega,d⟩,sm:=h.sm.mono om,vs:=h.vs.more om}
theorem WB.mono {D:RK} {W:Wo} (h:WB w0 w D W u i) (a:u<=u'):WB w0 w D W u' i:=by
 have:=Ew a;rcases h with⟨r,x,q,e1,e2,nd,e3,e4,e5,e6⟩ | ⟨lv,e1,e2,Y,e3,e4,e5,e6⟩
 ·exact .inl ⟨r,x,q,e1,e2,nd.upto a,e3,e4,by omega,e6⟩
 ·exact .inr ⟨lv,e1,e2,Y,e3,by omega,e5,e6⟩
theorem WB.kept {D:RK} {W:Wo} (h:WB w0 w D W u i) {l:List Nat} (c:ay l w w') (e:∀b ∈ l,¬b ∈ D.side i) (j:∀b ∈ l,w0.heap.size<=b):WB w0 w' D W u i:=by
 rcases h with⟨r,x,q,e1,e2,nd,e3⟩ | ⟨lv,e1,e2,Y,e3⟩
 ·exact .inl ⟨r,x,q,e1,e2,nd.kept c (fun b k a=>e b a (by simp[RK.side,e1,k])) j,e3⟩
 ·refine .inr ⟨lv,e1,e2,?_,e3⟩;unfold fG;rw[c.block _ Y.lt (fun a=>e _ a (by simp[RK.side,e1]))];exact Y
theorem WB.turn {D a:RK} {W e:Wo} (h:WB w0 w D W u i) (k:a.nk i=D.nk i) (ky:a.yk i=D.yk i) (l:e.nd i=W.nd i) (j:e.yb i=W.yb i):WB w0 w a e u i:=by
 rcases h with⟨r,x,q,e1,e2,nd,e3,e4⟩ | ⟨lv,e1,e2,Y,e3,e4,e5,e6⟩
 ·exact .inl ⟨r,x,q,k.trans e1,l.trans e2,nd,e3.trans ky.symm,e4⟩
 ·exact .inr ⟨lv,k.trans e1,l.trans e2,by rw[ky,j];exact Y,by rw[j];exact e3,e4,e5,by rw[j];exact e6⟩
theorem Oe.kept {D m:RK} {t:Nf} {v:Value} (h:Oe w D t v) {l:List Nat} (c:ay l w w') (z:∀b ∈ l,D.tag b≠5) (A:∀b,D.tag b=5->m.tag b=5):Oe w' m t v:=by
 obtain⟨⟨p,cap,e,R,s⟩,r⟩:=h;refine⟨⟨p,cap,e,fun i y j=>?_,fun k g o e=>A _ (s k g o e)⟩,r⟩;obtain⟨b,o,x,q⟩:=R i y j;have a:¬b ∈ l:=fun B=>z b B (s (fun e=>by rw[e]at j;simp at j) b o x);exact⟨b,o,x,⟨c.keeps a q.c0,c.keeps a q.c1,c.keeps a q.c2,c.keeps a q.c3,c.keeps a q.c4,c.keeps a q.c5,c.keeps a q.c6,c.keeps a q.c7,c.keeps a q.c8,c.keeps a q.c9⟩⟩
theorem gX {base n size:Nat} {e:TypeId} {v:Value} {cs:List Value} {l:List Nat} (h:w.ownsRow base e size v n cs) (c:ay l w w') (p:∀g,v.ownBlock=some g->¬g ∈ l):w'.ownsRow base e size v n cs:=by
 refine⟨h.1,?_⟩;rcases h.2 with q | ⟨j,k,cur,o,s,m,x⟩
 ·exact .inl q
 ·refine .inr ⟨j,k,cur,o,s,?_,x⟩;have y:j < w.heap.size:=by
   rcases dX j w with a | a
   ·exact a
   ·rw[eP a]at m;cases m
  rw[c.block j y (p j (by rw[o];rfl))];exact m
theorem RFl.kept {D a:RK} {W W':Wo} (h:RFl w D W) {l:List Nat} (c:ay l w w') (k:∀g,D.lv.ownBlock=some g->¬g ∈ l) (m:∀b ∈ l,D.tag b≠5) (o:∀b,D.tag b=5->a.tag b=5) (p:a.lv=D.lv) (j:a.cv=D.cv) (e:W'.fl=W.fl):RFl w' a W':=by
 obtain⟨q,s,x,y⟩:=h;refine⟨by rw[j,e];exact q,by rw[e];exact s,?_,?_⟩
 ·rw[e,j];exact fun i t v z A=>(x i t v z A).kept c m o
 ·rw[p,j,e];exact gX y c k
theorem REv.kept {D a:RK} {W W':Wo} (h:REv w D W) {l:List Nat} (c:ay l w w') (j:∀g,D.ev.ownBlock=some g->¬g ∈ l) (k:a.ev=D.ev) (e:W'.ev=W.ev):REv w' a W':=by
 refine⟨by rw[e];exact h.le,?_⟩;rw[k,e];exact gX h.own c j
theorem cZ.lt {D:RK} {W:Wo} (h:cZ w0 w D W u) {b:Nat} (e:D.tag b≠9):b < w.heap.size:=by
 rcases dX b w with a | a
 ·exact a
 ·exact absurd (h.al b a) e
theorem cZ.make {D j:RK} {W k:Wo} (h:cZ w0 w D W u) (l:List Nat) (c:ay l w w') (C:∀b ∈ l,w0.heap.size<=b/\D.tag b≠5/\D.tag b≠7) (M:u<=u')
  (tag:∀b,b < w.heap.size->j.tag b=D.tag b) (N:∀b,w'.heap.size<=b->j.tag b=9) (O:j.wb=D.wb/\j.nb=D.nb/\j.bb=D.bb/\j.yk=D.yk) (wb:Qo w' j k)
  (nb:MN w' j.nb j.nv\/((∀i,i < 2->j.nv i=D.nv i)/\∀b ∈ l,D.tag b≠6))
  (s:∀i,i < 2->(WB w0 w' j k u' i/\∀b ∈ j.side i,j.tag b=i+1)\/(j.nk i=D.nk i/\k.nd i=W.nd i/\k.yb i=W.yb i/\∀b ∈ l,D.tag b≠i+1))
  (ru:(oQ w' j.rp k.ru/\k.ru.length<=1000/\(k.ru≠[]->∀a,j.rp=some a->a.block < w0.heap.size))\/(j.rp=D.rp/\k.ru=W.ru))
  (fl:(RFl w' j k/\∀g,j.lv.ownBlock=some g->j.tag g=3)\/(j.lv=D.lv/\j.cv=D.cv/\k.fl=W.fl/\∀b ∈ l,D.tag b≠3))
  (ev:(REv w' j k/\∀g,j.ev.ownBlock=some g->j.tag g=4)\/(j.ev=D.ev/\k.ev=W.ev/\∀b ∈ l,D.tag b≠4)):cZ w0 w' j k u':=by
 have P:∀b,D.tag b=5->j.tag b=5:=fun b m=>by rw[tag b (h.lt om)];exact m
 have E:∀b ∈ l,D.tag b≠5:=fun b m=>(C b m).2.1;have hl0:∀b ∈ l,w0.heap.size<=b:=fun b m=>(C b m).1;obtain⟨k1,k2,k3,k4⟩:=O;have o:∀b,D.tag b≠9->j.tag b=D.tag b:=fun b m=>tag b (h.lt m);have S:∀i,i < 2->WB w0 w' j k u' i/\∀b ∈ j.side i,j.tag b=i+1:=fun i z=>by
  rcases s i z with q | ⟨p,A,Q,B⟩
  ·exact q
  ·refine⟨((h.s i z).kept c (fun b m x=>B b m (h.ts i z b x)) hl0 |>.turn p (by rw[k4]) A Q).mono M,fun b m=>?_⟩;have F:b ∈ D.side i:=by simp only[RK.side,p,k4]at m ⊢;exact m
   have q:=h.ts i z b F;rw[o b om,q]
 have G:oQ w' j.rp k.ru/\k.ru.length<=1000/\(k.ru≠[]->∀a,j.rp=some a->a.block < w0.heap.size):=by
  rcases ru with ru | ⟨p,A⟩
  ·exact ru
  ·rw[p,A];refine⟨h.ru.kept (fun R a e=>?_),h.rl,h.rb⟩;have q:=h.rb R a e;have:=h.bl.size;exact c.block _ om (fun x=>by have:=hl0 _ x;omega)
 have I:RFl w' j k/\∀g,j.lv.ownBlock=some g->j.tag g=3:=by
  rcases fl with fl | ⟨p,H,A,B⟩
  ·exact fl
  ·refine⟨h.fl.kept c (fun g y x=>B g x (h.tl g y)) E P p H A,fun g y=>?_⟩;rw[p]at y;have q:=h.tl g y;rw[o g om,q]
 have J:REv w' j k/\∀g,j.ev.ownBlock=some g->j.tag g=4:=by
  rcases ev with ev | ⟨p,A,B⟩
  ·exact ev
  ·refine⟨h.ev.kept c (fun g y x=>B g x (h.te g y)) p A,fun g y=>?_⟩;rw[p]at y;have q:=h.te g y;rw[o g om,q]
 obtain⟨T,K,L⟩:=h.tw;have U:MN w' j.nb j.nv:=by
  rcases nb with nb | ⟨p,H⟩
  ·exact nb
  ·rw[k2];exact(h.nb.kept (c.block _ h.nb.lt (fun x=>H _ x K))).as p
 have V:MN w' j.bb (fun i=>.pointer (some (j.yk i,0))):=by
  rw[k3,k4];exact h.bb.kept (c.block _ h.bb.lt (fun x=>(C _ x).2.2 L))
 refine⟨wb,U,V,fun i z=>(S i z).1,G.1,G.2.1,G.2.2,I.1,J.1,⟨by rw[k1,o _ om,T],by rw[k2,o _ om,K],by rw[k3,o _ om,L]⟩,fun i z=>(S i z).2,I.2,J.2,fun b m=>?_,N,ay.below h.bl c hl0⟩;rcases dX b w with a | a
 ·exact h.g0 b (by rw[<- tag b a];exact m)
 ·exact dL h.bl.size a
structure eX (D D':RK) (w w':World):Prop where
 os:w'.os=w.os
 tape:w'.tape=w.tape
 output:w'.output=w.output
 size:w.heap.size<=w'.heap.size
 block:∀b,b < w.heap.size->(D.tag b=9\/D.tag b=5)->w'.heap[b]? = w.heap[b]?
 tag:∀b,b < w.heap.size->D'.tag b=D.tag b
 wb:D'.wb=D.wb
theorem eX.trans {D e j:RK} {w2:World} (h:eX D e w w') (k:eX e j w' w2):eX D j w w2 :=
 ⟨k.os.trans h.os,k.tape.trans h.tape,k.output.trans h.output,dL h.size k.size,fun b a l=>(k.block b (ji a h.size) (by rw[h.tag b a];exact l)).trans (h.block b a l),fun b a=>(k.tag b (ji a h.size)).trans (h.tag b a),k.wb.trans h.wb⟩
theorem eX.of {D:RK} (h:Below w w w'):eX D D w w':=⟨h.os,h.tape,h.output,h.size,fun b a _=>h.block b a,fun _ _=>rfl,rfl⟩
theorem eX.list {D a:RK} {l:List Nat} (c:ay l w w') (e:∀b ∈ l,¬(D.tag b=9\/D.tag b=5)) (tag:∀b,b < w.heap.size->a.tag b=D.tag b) (h:a.wb=D.wb):eX D a w w' :=
 ⟨c.os,c.tape,c.output,c.size,fun b j k=>c.block b j (fun m=>e b m k),tag,h⟩
theorem cZ.KT {D:RK} {W:Wo} (h:cZ w0 w D W u) {l:List Nat} (e:∀b ∈ l,D.tag b=9) (hl0:∀b ∈ l,w0.heap.size<=b) (c:ay l w w'):cZ w0 w' D W u:=by
 obtain⟨k,m,o⟩:=h.tw;refine h.make l c (fun b a=>⟨hl0 b a,by have:=e b a;omega,by have:=e b a;omega⟩) nL (fun _ _=>rfl) (fun b a=>h.al b (dL c.size a)) ⟨rfl,rfl,rfl,rfl⟩ (h.wb.kept (c.block _ h.wb.lt (fun j=>by have:=e _ j;omega))) (.inr ⟨fun _ _=>rfl,fun b a=>by have:=e b a;omega⟩) (fun i p=>.inr ⟨rfl,rfl,rfl,fun b a=>by have:=e b a;omega⟩) (.inr ⟨rfl,rfl⟩) (.inr ⟨rfl,rfl,rfl,fun b a=>by have:=e b a;omega⟩) (.inr ⟨rfl,rfl,fun b a=>by have:=e b a;omega⟩)
theorem cZ.below {D:RK} {W:Wo} (h:cZ w0 w D W u) (e:Below w w w'):cZ w0 w' D W u:=h.KT (l:=[]) (fun _ a=>by simp at a) (fun _ a=>by simp at a) (ay.of e)
theorem cZ.mono {D:RK} {W:Wo} (h:cZ w0 w D W u) (a:u<=u'):cZ w0 w D W u':={h with s:=fun i e=>(h.s i e).mono a}
theorem cZ.up {D:RK} {W:Wo} (h:cZ w0 w D W u) (a:i < 2) {x:No} (e:W.nd i=some x):∃r q,D.nk i=some r/\bH w0 w r x q (pV u) u (33 * u)/\r.yb=D.yk i/\0<=x.now/\x.now<=u/\x.id=i/\∀b ∈ r.all,D.tag b=i+1:=by
 rcases h.s i a with⟨r,y,q,e1,e2,nd,e3,e4,e5,e6⟩ | ⟨lv,_,e2,_⟩
 ·rw[e]at e2
  cases e2
  exact⟨r,q,e1,nd,e3,e4,e5,e6,fun b j=>h.ts i a b (by simp[RK.side,e1,j])⟩
 ·rw[e]at e2;cases e2
theorem cZ.down {D:RK} {W:Wo} (h:cZ w0 w D W u) (a:i < 2) (e:W.nd i=none):D.nk i=none/\(∃lv,fG w (D.yk i) (W.yb i) lv/\((W.yb i).cut=true->lv=(W.yb i).left)/\pV u<=lv/\lv<=9223372036854775807/\(W.yb i).B.length=64)/\D.tag (D.yk i)=i+1:=by
 rcases h.s i a with⟨r,y,q,e1,e2,_⟩ | ⟨lv,e1,_,e3⟩
 ·rw[e]at e2;cases e2
 ·exact⟨e1,⟨lv,e3⟩,h.ts i a _ (by simp[RK.side,e1])⟩
theorem cZ.fresh {D:RK} {W:Wo} {Q:Nat} (h:cZ w0 w D W u) (e:D.tag Q=9) (j:w0.heap.size<=Q) (c:aC Q w w'):cZ w0 w' D W u :=
 h.KT (l:=[Q]) (fun b a=>by rw[jA.1 a];exact e) (fun b a=>by rw[jA.1 a];exact j) (ay.one c sM)
theorem eX.loc {D a:RK} {u u':World} {Q:Nat} (h:eX D a w u) (c:aC Q u u') (k:w.heap.size<=Q):eX D a w u' :=
 ⟨c.os.trans h.os,c.tape.trans h.tape,c.output.trans h.output,dL h.size c.size,fun b e j=>(c.block b (ji e h.size) om).trans (h.block b e j),h.tag,h.wb⟩
theorem eX.then {D a:RK} {u u':World} (h:eX D a w u) (c:Below u u u'):eX D a w u':=h.trans (eX.of c)
end
section
variable {w0 w w':World} {W:Wo} {u i:Nat} {r:fC} {x:No}
theorem cZ.nvU {D:RK} (h:cZ w0 w D W u) (a:i < 2) {r:fC} (e:D.nk i=some r):w.cell? (D.nb,i)=some (.pointer (some (r.nd,0))):=by
 have:=h.nb.c i a;unfold RK.nv at this;rw[e]at this;exact this
theorem cZ.nvD {D:RK} (h:cZ w0 w D W u) (a:i < 2) (e:D.nk i=none):w.cell? (D.nb,i)=some (.pointer none):=by
 have:=h.nb.c i a;unfold RK.nv at this;rw[e]at this;exact this
theorem cZ.Lr {D:RK} {u':Nat} {f:fC} {l:No} {q':Ro} (h:cZ w0 w D W u) (z:i < 2) (q:D.nk i=some r) (A:W.nd i=some x) (nd:bH w0 w' f l q' (pV u') u' (33 * u')) (c:ay r.all w w') (B:u<=u') (hr:f.nd=r.nd/\f.yb=r.yb) (C:0<=l.now) (E:l.now<=u') (id:l.id=i) (m:Nat->Nat) (s:∀b,b < w.heap.size->m b=D.tag b) (t2:∀b,w'.heap.size<=b->m b=9) (F:∀b ∈ f.all,m b=i+1) :
  cZ w0 w' {D with nk:=aQ D.nk i (some f),tag:=m} {W with nd:=aQ W.nd i (some l)} u'/\eX D {D with nk:=aQ D.nk i (some f),tag:=m} w w':=by
 obtain⟨M,N,y,p,G,_,_,_,k⟩:=h.up z A;rw[q]at y
 cases y
 obtain⟨H,I,J⟩:=h.tw;refine⟨h.make r.all c (fun b a=>⟨p.g0 b a,by have:=k b a;omega,by have:=k b a;omega⟩) B s t2 ⟨rfl,rfl,rfl,rfl⟩ (h.wb.kept (c.block _ h.wb.lt (fun K=>by have:=k _ K;omega))) (.inr ⟨fun j L=>?_,fun b a=>by have:=k b a;omega⟩) (fun j L=>?_) (.inr ⟨rfl,rfl⟩) (.inr ⟨rfl,rfl,rfl,fun b a=>by have:=k b a;omega⟩) (.inr ⟨rfl,rfl,fun b a=>by have:=k b a;omega⟩),eX.list c (fun b a=>by have:=k b a;omega) s rfl⟩
 ·show(.pointer ((aQ D.nk i (some f) j).map fun r=>(r.nd,0)):Value)=.pointer ((D.nk j).map fun r=>(r.nd,0));by_cases e:j=i
  ·subst e;rw[aG,q,nX,nX,hr.1]
  ·rw[aI _ _ e]
 ·by_cases e:j=i
  ·subst e;refine .inl ⟨.inl ⟨f,l,q',aG _ _ _,aG _ _ _,nd,hr.2.trans G,C,E,id⟩,fun b a=>F b ?_⟩;have o:b ∈ (match aQ D.nk j (some f) j with | some r=>r.all | none=>[D.yk j]):=a;rw[aG]at o;exact o
  ·exact .inr ⟨aI _ _ e,aI _ _ e,rfl,fun b a=>by have:=k b a;omega⟩
theorem cZ.SI {D:RK} {u':Nat} {a:No} {q':Ro} (h:cZ w0 w D W u) (l:i < 2) (f:D.nk i=some r) (m:W.nd i=some x) (nd:bH w0 w' r a q' (pV u') u' (33 * u')) (c:ay r.all w w') (p:u<=u') (q:0<=a.now) (s:a.now<=u') (id:a.id=i) :
  cZ w0 w' D {W with nd:=aQ W.nd i (some a)} u'/\eX D D w w':=by
 obtain⟨B,C,o,y,E,_,_,_,z⟩:=h.up l m;rw[f]at o
 cases o
 have k:=h.Lr l f m nd c p ⟨rfl,rfl⟩ q s id D.tag (fun _ _=>rfl) (fun b A=>h.al b (dL c.size A)) z;have e:({D with nk:=aQ D.nk i (some r),tag:=D.tag}:RK)=D:=by
  have:aQ D.nk i (some r)=D.nk:=by
   funext j
   by_cases e:j=i
   ·subst e;rw[aG,f]
   ·rw[aI _ _ e]
  rw[this]
 rw[e]at k;exact k
theorem qP (W:Wo) (n:Int):(∃i x,n=((i:Nat):Int)/\i < 2/\W.nd i=some x/\W.jW n=0)\/(∃i,n=((i:Nat):Int)/\i < 2/\W.nd i=none/\W.jW n=7)\/(¬(0<=n/\n < 2)/\W.jW n=2):=by
 by_cases a:0<=n/\n < 2
 ·cases e:W.nd n.toNat with
  | some y=>exact .inl ⟨n.toNat,y,by omega,by omega,e,by unfold Wo.jW;rw[aj a,e];rfl⟩
  | none=>exact .inr (.inl ⟨n.toNat,by omega,by omega,e,by unfold Wo.jW;rw[aj a,e];rfl⟩)
 ·exact .inr (.inr ⟨a,by unfold Wo.jW;rw[ak a]⟩)
theorem rY {D:RK} (h:cZ w0 w D W u) (n:Int) :
  Calls prog 44 #[.pointer (some (D.wb,0)),n] w fun e w'=>e=.returned (.int .i64 (W.jW n:Nat))/\Below w w w':=by
 have c0:=(h.wb.c 0).trans rfl;rcases qP W n with⟨i,x,rfl,hi,hx,he⟩ | ⟨i,rfl,hi,hx,he⟩ | ⟨hn,he⟩
 ·obtain⟨r,q,a,_⟩:=h.up hi hx;have cn:=h.nvU hi a;have f:¬(i:Int) < 0:=by omega
  have j:¬(1:Int) < (i:Int):=by omega
  have k:=jN i
  have l:(i:Int) < 2:=by omega
  rw[he];clear h he hx hi a;go_enter func44,ntmps44;go_wp2_with fail;go_ret;exact⟨rfl,aH _ _⟩
 ·obtain⟨a,_⟩:=h.down hi hx;have cn:=h.nvD hi a;have f:¬(i:Int) < 0:=by omega
  have j:¬(1:Int) < (i:Int):=by omega
  have k:=jN i
  have l:(i:Int) < 2:=by omega
  rw[he];clear h he hx hi a;go_enter func44,ntmps44;go_wp2_with fail;go_ret;exact⟨rfl,aH _ _⟩
 ·rw[he];clear h he c0;by_cases f:n < 0
  ·go_enter func44,ntmps44;go_wp2_with fail;go_ret;exact⟨rfl,aH _ _⟩
  ·have j:(1:Int) < n:=by omega
   go_enter func44,ntmps44;go_wp2_with fail;go_ret;exact⟨rfl,aH _ _⟩
def Jk (W:Wo):Prop:=W.he≠0->0<=W.hn/\W.hn < 2
theorem G9 {D:RK} (h:cZ w0 w D W u) (f:Jk W) :
  Calls prog 49 #[.pointer (some (D.wb,0))] w fun e w'=>e=.returned (.int .i64 (W.RX:Nat))/\Below w w w':=by
 have k:=jH h;have c4:=(h.wb.c 4).trans rfl;by_cases a:W.he=0
 ·have e:W.to = -1:=aj a;have j:Hid (W.RX=4):=aj a;rw[e]at c4;clear a h f e;go_enter func49,ntmps49;go_wp2_with fail;go_ret;exact⟨by rw[j.out];rfl,aH _ _⟩
 ·have e:W.to=W.hn:=ak a;have j:Hid (W.RX=W.jW W.hn):=ak a;rw[e]at c4;have m:¬W.hn < 0:=by have:=f a;omega
  clear a h f e;go_enter func49,ntmps49;go_wp2_with fail;refine jM (rY k W.hn) fun o l=>?_;go_wp2_with fail;go_ret;exact⟨by rw[j.out];rfl,l⟩
def RK.dn (D:RK) (i:Nat):RK:={D with nk:=aQ D.nk i none}
theorem cZ.fall {D:RK} {y:By} (h:cZ w0 w D W u) (p:i < 2) (A:W.nd i=some x) (E:D.nk i=some r) {lv:Int} (Y:fG w r.yb y.pG lv) (F:y.cut=true->lv=y.left) (l:pV u<=lv/\lv<=9223372036854775807/\y.B.length=64) (e:w'=w.setCell (D.nb,i) (.pointer none)) :
  cZ w0 w' (D.dn i) (W.bQ i y) u/\eX D (D.dn i) w w':=by
 obtain⟨K,L,q,G,s,_,_,_,H⟩:=h.up p A;rw[E]at q
 cases q
 obtain⟨m,o,I⟩:=h.tw;have C:aC D.nb w w':=by rw[e];exact aC.set _ _ _ _
 have c:ay [D.nb] w w':=ay.one C sM;have f:∀b ∈ [D.nb],D.tag b=6:=fun b a=>by rw[jA.1 a];exact o
 have z:=H _ r.rQ;refine⟨h.make [D.nb] c (fun b a=>⟨h.g0 b (by have:=f b a;omega),by have:=f b a;omega,by have:=f b a;omega⟩) nL (fun _ _=>rfl) (fun b a=>h.al b (dL c.size a)) ⟨rfl,rfl,rfl,rfl⟩ (h.wb.kept (C.block _ h.wb.lt (fun e=>by rw[e]at m;omega))) (.inl ?_) (fun j J=>?_) (.inr ⟨rfl,rfl⟩) (.inr ⟨rfl,rfl,rfl,fun b a=>by have:=f b a;omega⟩) (.inr ⟨rfl,rfl,fun b a=>by have:=f b a;omega⟩),eX.list c (fun b a=>by have:=f b a;omega) (fun _ _=>rfl) rfl⟩
 ·rw[e];refine(h.nb.put p (.pointer none)).as (fun j J=>?_);show(.pointer ((aQ D.nk i none j).map fun r=>(r.nd,0)):Value)=aQ D.nv i (.pointer none) j;by_cases e:j=i
  ·subst e;rw[aG,aG];rfl
  ·rw[aI _ _ e,aI _ _ e];rfl
 ·by_cases e:j=i
  ·subst e;refine .inl ⟨.inr ⟨lv,aG _ _ _,aG _ _ _,?_,?_,l.1,l.2.1,?_⟩,fun b a=>?_⟩
   ·show fG w' (D.yk j) (aQ W.yb j y.pG j) lv;rw[aG,<- s];unfold fG;rw[C.block _ Y.lt (fun e=>by rw[e]at z;omega)];exact Y
   ·show(aQ W.yb j y.pG j).cut=true->lv=(aQ W.yb j y.pG j).left;rw[aG];exact F
   ·show(aQ W.yb j y.pG j).B.length=64;rw[aG];exact l.2.2
   ·have k:b ∈ (match aQ D.nk j none j with | some r=>r.all | none=>[D.yk j]):=a;rw[aG]at k;rw[jA.1 k,<- s];exact z
  ·exact .inr ⟨aI _ _ e,aI _ _ e,aI _ _ e,fun b a=>by have:=f b a;omega⟩
theorem cZ.ahg {D:RK} (h:cZ w0 w D W u) (f:i < 2) (j:W.nd i=some x) (e:w'=w.setCell (D.yk i,1) (.bool true)):cZ w0 w' D {W with nd:=aQ W.nd i (some {x with y:=x.y.pG})} u/\eX D D w w':=by
 obtain⟨r,q,l,nd,k,m,o,p,F⟩:=h.up f j;have C:aC r.yb w w':=by rw[e,<- k];exact aC.set _ _ _ _
 obtain⟨lv,s,z,A,E⟩:=nd.yb;have t:RS w w' r.yb r.ce x.y.pG (newest x.y.pG.B) x.off (pV u):=⟨⟨lv,by rw[e,<- k];exact s.s1 false,z,A,E⟩,nd.ce.dO C (fC.df nd.ds 1 2 rfl rfl om),fC.df nd.ds 1 2 rfl rfl om,nd.len,(bW.refl r.yb r.ce w).on C (Or.inl rfl)⟩;have a:=nd.Yf t rfl;exact h.SI f l j a (ay.one C r.rQ) nL m o p
theorem Ey {y:By} :({W with nd:=aQ W.nd i (some x)}:Wo).bQ i y=W.bQ i y:=by
 unfold Wo.bQ;have:aQ (aQ W.nd i (some x)) i none=aQ W.nd i none:=by
  funext j
  unfold aQ;split <;> rfl
 simp only[this]
theorem Vs {D:RK} (h:cZ w0 w D W u) (n:Int) :
  Calls prog 26 #[.pointer (some (D.wb,0)),n] w fun e w'=>e=.returned (.int .i64 (W.jW n:Nat))/\∃z,cZ w0 w' z (W.fU n) u/\eX D z w w':=by
 have A:=jH h;clear h;go_enter func26,ntmps26;go_wp2_with fail;refine jM (rY A n) fun l b1=>?_;have s:=b1;have a:=jH (A.below b1);clear b1;rcases qP W n with⟨i,x,rfl,hi,hx,he⟩ | ⟨i,rfl,hi,hx,he⟩ | ⟨hn,he⟩
 ·have f:Hid (W.jW (i:Int)=0/\W.fU (i:Int)=W.bQ i x.y):=⟨he,by unfold Wo.fU;rw[aj he,fJ,hx]⟩;have I:Hid (i < 2/\W.nd i=some x):=⟨hi,hx⟩;obtain⟨r,q,m,nd,o,_⟩:=a.up hi hx;have J:Hid (D.nk i=some r/\bH w0 l r x q (pV u) u (33 * u)):=⟨m,nd⟩;have c0:=(a.wb.c 0).trans rfl;have c1:=(a.wb.c 1).trans rfl;have L:=a.bb.c i hi;have cn:=a.nvU hi m;have M:=a.nb.fr i hi;obtain⟨lv,p,C,E,F⟩:=nd.yb;have cy:l.cell? (D.yk i,1)=some (.bool (!x.y.on)):=by rw[<- o];exact p.c1
  have N:l.frozen? (D.yk i,1)=false:=by rw[<- o];exact p.fr 1
  have G:Hid ((x.y.cut=true->lv=x.y.left)/\pV u<=lv/\lv<=9223372036854775807/\x.y.B.length=64):=⟨C,E,F,nd.len⟩;have j:=a.ahg hi hx rfl;have H:=jH j;have K:Hid (fG (l.setCell (D.yk i,1) (.bool true)) r.yb x.y.pG lv):=by show fG _ _ _ _;rw[<- o];exact p.s1 false
  have O:¬(i:Int) < 0:=by omega
  have P:=jN i
  have Q:(i:Int) < 2:=by omega
  have R:=(j.1.wb.c 0).trans rfl;have dn:=j.1.nvU hi m;have df:=j.1.nb.fr i hi;rw[he];clear he hx m nd o p C E F j hi;go_wp2_with fail;go_ret;have k:=H.1.fall I.1 (aG _ _ _) J.1 K G.1 G.2 rfl;refine⟨by rw[f.1];rfl,D.dn i,?_,(eX.of s.out).trans (H.2.trans k.2)⟩;rw[f.2,<- Ey];exact k.1
 ·have f:Hid (W.jW (i:Int)=7/\W.fU (i:Int)=W):=⟨he,by unfold Wo.fU;rw[ak om]⟩;rw[he];clear he hx hi;go_wp2_with fail;go_ret;exact⟨by rw[f.1];rfl,D,by rw[f.2];exact a,eX.of s.out⟩
 ·have f:Hid (W.jW n=2/\W.fU n=W):=⟨he,by unfold Wo.fU;rw[ak om]⟩;rw[he];clear he hn;go_wp2_with fail;go_ret;exact⟨by rw[f.1];rfl,D,by rw[f.2];exact a,eX.of s.out⟩
end
section
variable {w w0 w':World} {base n u Q:Nat} {v cv:Value} {cs:List Value} {D:RK} {W:Wo} {t:Nf}
theorem uS {a:Nat} {e:TypeId} (h:w.ownsRow base e a v n cs):w.ownsRow 0 e a v n cs:=by
 refine⟨h.1,?_⟩;rcases h.2 with q | ⟨g,cap,cur,f,_,i⟩
 ·exact .inl q
 ·exact .inr ⟨g,cap,cur,f,jY _,i⟩
theorem zC {a g cap:Nat} {e:TypeId} (h:w.ownsRow base e a (.slice (some (g,0)) n cap) n cs):∀(j:Nat) x,cs[j]? = some x->w.cell? (g,j)=some x:=fun j x f=>by
 rcases h.2 with⟨q,_⟩ | ⟨g',cap',cur,q1,_,q3,_,_,_,q4⟩
 ·cases q
 ·cases q1
  rw[aP w g j _ _ _ q3];rw[<- q4]at f;rw[kG]at f;split at f
  ·rw[<- sQ];exact f
  ·cases f
theorem Vt {l:List Nf} {us:List Value} (h:∀(i:Nat) t v,l[i]? = some t->us[i]? = some v->∃p n c,v=.slice p n c):∀r ∈ gW l us,Five r:=fun r hr=>by
 unfold gW at hr;obtain⟨i,a⟩:=Aq hr;rw[abR]at a
 cases e:l[i]? with
 | none=>rw[e]at a;cases a
 | some t =>
  cases f:us[i]? with
  | none=>rw[e,f]at a;cases a
  | some v =>
   rw[e,f]at a
   cases a
   obtain⟨p,n,c,rfl⟩:=h i t v e f;exact⟨rfl,fun u j=>by
    simp only[oU,dI,eY,fA]at j;rcases j with rfl | rfl | rfl | rfl | rfl <;> rfl⟩
theorem RFl.five (h:RFl w D W):∀r ∈ gW W.fl D.cv,Five r:=Vt (fun i t v a f=>by obtain⟨⟨p,cap,e,_⟩,_⟩:=h.ok i t v a f;exact⟨p,_,cap,e⟩)
theorem uT {R:List (List Value)} (h:∀r ∈ R,Five r) (k:Nat):R.flatten.take (k * 5)=(R.take k).flatten/\R.flatten.drop (k * 5)=(R.drop k).flatten:=by
 induction R generalizing k with
 | nil=>simp
 | cons r R ih =>
  have hr:r.length=5:=(h r sM).1
  cases k with
  | zero=>simp
  | succ k =>
   obtain⟨a,b⟩:=ih (fun x f=>h x (by simp[f])) k;have e:(k+1) * 5=r.length+k * 5:=by omega
   constructor
   ·rw[WV,e,List.take_append,ab5,WV];rw[vk om];simp[a]
   ·rw[WV,e,List.drop_append,List.drop_succ_cons];simp[b]
theorem yB {m c:Nat} (p:w.ownsRow base 106 5 v n cs) (a:Addr) (news:List Value) (q:news.length=m * 5) (e:∀j u,news[j]? = some u->w.cell? (a.add j)=some u) (s:∀u ∈ news,u.oneCell'=true) (B:n+m<=1000) (x:base<=w.heap.size) :
  ∃v' w',(Builtin.append_ #[54,54] 54 #[v,.slice (some a) m c]).run prog w=.ok v' w'/\w'.ownsRow base 106 5 v' (n+m) (cs++news)/\w.grownBy w' v.ownBlock/\(v'.ownBlock=v.ownBlock\/v'.ownBlock=some w):=by
 obtain⟨y,z,f,h,i⟩:=lu Tryz.I8;obtain⟨v5,A,hr,k,l,_,o⟩:=BX (P := prog) w base 54 54 106 y _ 5 56 Tryz.underlying54 z f h i rfl dC v n cs p a m c news q e s (by unfold maxLen;omega) om x;exact⟨v5,A,hr,k,l,o⟩
def WE (a:Nat->Nat) (n:Nat) (v:Value) (k:Nat):Nat->Nat:=fun b=>if b < n then a b else if v.ownBlock=some b then k else 9
theorem cZ.aaz {w2 w3:World} (h:cZ w0 w D W u) (c:ay D.lv.ownBlock.toList w w2) {v2:Value} {fl':List Nf} {cv':List Value} (own:w2.ownsRow 0 106 5 v2 fl'.length (gW fl' cv').flatten) (m:∀g,v2.ownBlock=some g->D.lv.ownBlock=some g\/w.heap.size<=g) (A:cv'.length=fl'.length) (o:fl'.length<=200) (p:∀(i:Nat) t v,fl'[i]? = some t->cv'[i]? = some v->Oe w D t v) (e:w3=w2.setCell (D.wb,3) v2) :
  cZ w0 w3 {D with lv:=v2,cv:=cv',tag:=WE D.tag w v2 3} {W with fl:=fl'} u/\eX D {D with lv:=v2,cv:=cv',tag:=WE D.tag w v2 3} w w3:=by
 obtain⟨s,B,E⟩:=h.tw;have C:aC D.wb w2 w3:=by rw[e];exact aC.set _ _ _ _
 have c3:ay (D.wb::D.lv.ownBlock.toList) w w3:=(c.mono (fun b a=>.inl (Oo _ a))).trans (ay.one C sM);have tl:∀b ∈ D.wb::D.lv.ownBlock.toList,D.tag b=0\/D.tag b=3:=fun b a=>by
  rcases dI.1 a with rfl | a
  ·exact .inl s
  ·exact .inr (h.tl b (by simpa using a))
 have x:∀g,v2.ownBlock=some g->g < w2.heap.size:=fun g f=>(own.lt g f).2;have j:∀g,v2.ownBlock=some g->g≠D.wb:=fun g f e=>by
  rcases m g f with q | q
  ·have:=h.tl g q;rw[e]at this;omega
  ·have:=h.wb.lt;omega
 have z:∀b,b < w.heap.size->WE D.tag w v2 3 b=D.tag b:=fun b a=>aj a;have k:Qo w2 D W:=h.wb.kept (c.block _ h.wb.lt (fun y=>by have:=h.tl _ (by simpa using y);omega));refine⟨h.make (D.wb::D.lv.ownBlock.toList) c3 (fun b a=>⟨h.g0 b (by have:=tl b a;omega),by have:=tl b a;omega,by have:=tl b a;omega⟩) nL z (fun b a=>?_) ⟨rfl,rfl,rfl,rfl⟩ ?_ (.inr ⟨fun _ _=>rfl,fun b a=>by have:=tl b a;omega⟩) (fun i H=>.inr ⟨rfl,rfl,rfl,fun b a=>by have:=tl b a;omega⟩) (.inr ⟨rfl,rfl⟩) (.inl ⟨⟨A,o,fun i t v F m=>(p i t v F m).kept c3 (fun b a=>by have:=tl b a;omega) (fun b a=>?_),?_⟩,fun g f=>?_⟩) (.inr ⟨rfl,rfl,fun b a=>by have:=tl b a;omega⟩),eX.list c3 (fun b a=>by have:=tl b a;omega) z rfl⟩
 ·have:=c.size;have:=C.size;show(if b < w.heap.size then _ else _)=_;rw[ak om,ak (fun e=>by have:=x b e;omega)]
 ·show w3.heap[D.wb]? = _;rw[e,bV w2 _ _ _ _ _ k];rfl
 ·show(if b < w.heap.size then _ else _)=_;rw[aj (h.lt om)];exact a
 ·exact gX own (ay.one (l:=[D.wb]) C sM) (fun g f y=>j g f (by simpa using y))
 ·show(if g < w.heap.size then _ else _)=_;rcases m g f with q | q
  ·have G:=h.tl g q;rw[aj (h.lt om),G]
  ·rw[ak om,aj f]
theorem cZ.ahh {w2 w3:World} (h:cZ w0 w D W u) (c:ay D.ev.ownBlock.toList w w2) {v2:Value} {ev':List (Int×Int)} (own:w2.ownsRow 0 113 2 v2 ev'.length (yt ev')) (y:∀g,v2.ownBlock=some g->D.ev.ownBlock=some g\/w.heap.size<=g) (o:ev'.length<=1000) (e:w3=w2.setCell (D.wb,6) v2) :
  cZ w0 w3 {D with ev:=v2,tag:=WE D.tag w v2 4} {W with ev:=ev'} u/\eX D {D with ev:=v2,tag:=WE D.tag w v2 4} w w3:=by
 obtain⟨p,A,B⟩:=h.tw;have C:aC D.wb w2 w3:=by rw[e];exact aC.set _ _ _ _
 have c3:ay (D.wb::D.ev.ownBlock.toList) w w3:=(c.mono (fun b a=>.inl (Oo _ a))).trans (ay.one C sM);have j:∀b ∈ D.wb::D.ev.ownBlock.toList,D.tag b=0\/D.tag b=4:=fun b a=>by
  rcases dI.1 a with rfl | a
  ·exact .inl p
  ·exact .inr (h.te b (by simpa using a))
 have s:∀g,v2.ownBlock=some g->g < w2.heap.size:=fun g f=>(own.lt g f).2;have k:∀g,v2.ownBlock=some g->g≠D.wb:=fun g f e=>by
  rcases y g f with q | q
  ·have:=h.te g q;rw[e]at this;omega
  ·have:=h.wb.lt;omega
 have z:∀b,b < w.heap.size->WE D.tag w v2 4 b=D.tag b:=fun b a=>aj a;have m:Qo w2 D W:=h.wb.kept (c.block _ h.wb.lt (fun x=>by have:=h.te _ (by simpa using x);omega));refine⟨h.make (D.wb::D.ev.ownBlock.toList) c3 (fun b a=>⟨h.g0 b (by have:=j b a;omega),by have:=j b a;omega,by have:=j b a;omega⟩) nL z (fun b a=>?_) ⟨rfl,rfl,rfl,rfl⟩ ?_ (.inr ⟨fun _ _=>rfl,fun b a=>by have:=j b a;omega⟩) (fun i F=>.inr ⟨rfl,rfl,rfl,fun b a=>by have:=j b a;omega⟩) (.inr ⟨rfl,rfl⟩) (.inr ⟨rfl,rfl,rfl,fun b a=>by have:=j b a;omega⟩) (.inl ⟨⟨o,?_⟩,fun g f=>?_⟩),eX.list c3 (fun b a=>by have:=j b a;omega) z rfl⟩
 ·have:=c.size;have:=C.size;show(if b < w.heap.size then _ else _)=_;rw[ak om,ak (fun e=>by have:=s b e;omega)]
 ·show w3.heap[D.wb]? = _;rw[e,bV w2 _ _ _ _ _ m];rfl
 ·exact gX own (ay.one (l:=[D.wb]) C sM) (fun g f x=>k g f (by simpa using x))
 ·show(if g < w.heap.size then _ else _)=_;rcases y g f with q | q
  ·have E:=h.te g q;rw[aj (h.lt om),E]
  ·rw[ak om,aj f]
theorem cZ.ahi (h:cZ w0 w D W u) (a b:Int) (f:b≠0) (e:w'=(w.setCell (D.wb,4) a).setCell (D.wb,5) b) :
  cZ w0 w' D {W with hn:=a,he:=b} u/\eX D D w w':=by
 obtain⟨k,m,o⟩:=h.tw;have C:aC D.wb w w':=by rw[e];exact(aC.set _ _ _ _).trans (aC.set _ _ _ _)
 have c3:ay [D.wb] w w':=ay.one C sM;have j:∀b ∈ [D.wb],D.tag b=0:=fun b f=>by rw[jA.1 f];exact k
 refine⟨h.make [D.wb] c3 (fun b f=>⟨h.g0 b (by have:=j b f;omega),by have:=j b f;omega,by have:=j b f;omega⟩) nL (fun _ _=>rfl) (fun b f=>h.al b (dL C.size f)) ⟨rfl,rfl,rfl,rfl⟩ ?_ (.inr ⟨fun _ _=>rfl,fun b f=>by have:=j b f;omega⟩) (fun i s=>.inr ⟨rfl,rfl,rfl,fun b f=>by have:=j b f;omega⟩) (.inr ⟨rfl,rfl⟩) (.inr ⟨rfl,rfl,rfl,fun b f=>by have:=j b f;omega⟩) (.inr ⟨rfl,rfl,fun b f=>by have:=j b f;omega⟩),eX.list c3 (fun b f=>by have:=j b f;omega) (fun _ _=>rfl) rfl⟩;have p:=bV w D.wb 4 _ _ a h.wb;have q:=bV (w.setCell (D.wb,4) a) D.wb 5 _ _ b p;show w'.heap[D.wb]? = _;have l:({W with hn:=a,he:=b}:Wo).to=a:=ak f;rw[e,q,l];rfl
theorem Bz {c:Nf} (h:uQ w Q c cv):uQ (((((w.setCell (Q,0) t.fr).setCell (Q,1) t.li).setCell (Q,2) t.ep).setCell (Q,3) (.bool t.cl)).setCell (Q,4) v) Q t v:=by
 have a:=bV w Q 0 _ _ t.fr h;have e:=bV _ Q 1 _ _ t.li a;have f:=bV _ Q 2 _ _ t.ep e;have i:=bV _ Q 3 _ _ (.bool t.cl) f;exact(bV _ Q 4 _ _ v i).trans rfl
theorem uU (w:World) (Q:Nat) (a e f h i:Value):aC Q w (((((w.setCell (Q,0) a).setCell (Q,1) e).setCell (Q,2) f).setCell (Q,3) h).setCell (Q,4) i) :=
 ((((aC.set _ _ _ _).trans (aC.set _ _ _ _)).trans (aC.set _ _ _ _)).trans (aC.set _ _ _ _)).trans (aC.set _ _ _ _)
theorem uQ.fr' (h:uQ w Q t cv) (i:Nat):w.frozen? (Q,i)=false:=jk w _ i _ _ h
theorem uQ.dO {b:Nat} (h:uQ w Q t cv) (c:aC b w w') (a:Q≠b):uQ w' Q t cv:=by unfold uQ;rw[c.block Q h.lt a];exact h
theorem He {l:List Nf} {us:List Value} {k:Nat} (e:us.length=l.length) (a:∀r ∈ gW l us,Five r):(gW (l.eraseIdx k) (us.eraseIdx k)).flatten=(gW l us).flatten.take (k * 5)++(gW l us).flatten.drop ((k+1) * 5):=by
 rw[(uT a k).1,(uT a (k+1)).2];unfold gW;rw[<- zk _ _ _ _ e,List.eraseIdx_eq_take_drop_succ,List.flatten_append]
theorem Oe.keep (h:Oe w D t v) {l:List Nat} (c:ay l w w') (a:∀b ∈ l,D.tag b≠5):Oe w' D t v:=h.kept c a (fun _ e=>e)
theorem Vu {u u':World} (t:Nf) (q:Option Addr) (a c:Nat) (j:Below base u u') (A:u'.ownsRow base 106 5 v n cs) (I:n<=1000) (B:base<=u'.heap.size) :
  ∃v5 f,(Builtin.append_ #[54,54] 54 #[v,.slice (some (u'.heap.size,0)) 1 1]).run prog (u'.alloc (.cells #[t.fr,t.li,t.ep,.bool t.cl,.slice q a c] 106))=.ok v5 f/\f.ownsRow base 106 5 v5 (n+1) (cs++oU t (.slice q a c))/\Below base u f/\(∀b,b < u'.heap.size->v.ownBlock≠some b->f.heap[b]? = u'.heap[b]?):=by
 obtain⟨E,F,m,o,p⟩:=lu Tryz.I8;have k:=aB u' (.cells #[t.fr,t.li,t.ep,.bool t.cl,.slice q a c] 106);have s:(u'.alloc (.cells #[t.fr,t.li,t.ep,.bool t.cl,.slice q a c] 106)).ownsRow base 106 5 v n cs:=jf A (ay.of (l:=[]) k) sM;have h:=dL B k.size;have G:∀x ∈ oU t (.slice q a c),x.oneCell'=true:=fun x C=>by
  simp only[oU,dI,eY,fA]at C;rcases C with rfl | rfl | rfl | rfl | rfl <;> rfl
 obtain⟨v5,f,hr,y,i,_,_⟩:=BX (P := prog) (u'.alloc (.cells #[t.fr,t.li,t.ep,.bool t.cl,.slice q a c] 106)) base 54 54 106 E _ 5 56 Tryz.underlying54 F m o p rfl dC v n cs s ⟨u'.heap.size,0,none⟩ 1 1 (oU t (.slice q a c)) rfl (D7 u' t _) G (by unfold maxLen;omega) om h;refine⟨v5,f,hr,y,(j.trans (k.mono B)).grown i h (fun q H=>(A.lt _ H).1),fun b j z=>?_⟩;exact(i.block b (ji j k.size) (fun e=>z e.symm)).trans (k.block b j)
end
end Go.Proofs.YtnogmjekhjldcaaGreatDoor
