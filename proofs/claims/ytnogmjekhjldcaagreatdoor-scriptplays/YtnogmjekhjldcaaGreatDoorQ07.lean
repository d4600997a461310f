/-
  What the claimed theorem reaches, part Q07.
-/
import Derived.Test.YtnogmjekhjldcaaGreatDoorQ06
namespace Go.Proofs.YtnogmjekhjldcaaGreatDoor
open Go.RowKit Go.Proofs.Tryz
set_option maxRecDepth 100000
set_option maxHeartbeats 8000000
theorem Tab.dO {b c:Nat} {low:Int} {T:Tb} {w w':World} (h:Tab w c low T) (k:aC b w w') (a:c≠b):Tab w' c low T:=by
 unfold Tab;rw[k.block c h.lt a];exact h
theorem XP {w:World} {b:Nat} {low:Int} {T:Tb} (h:Tab w b low T) (k:Nat) (c:Ce) (a:k < 32):Tab ((((((((w.setCell (b,1+k * 10+2) c.pr).setCell (b,1+k * 10+2+1) c.ia).setCell (b,1+k * 10+2+2) c.ip).setCell (b,1+k * 10+2+3) c.fa).setCell (b,1+k * 10+2+4) c.fp).setCell (b,1+k * 10+2+5) c.po).setCell (b,1+k * 10+2+6) c.st).setCell (b,1+k * 10+2+7) c.un) b low (upd T k ⟨(T k).ve,c.pr,c.ia,c.ip,c.fa,c.fp,c.po,c.st,c.un⟩):=by
 have h:=h.put (i:=k) (k:=2) c.pr a om om;have h:=h.put (i:=k) (k:=3) c.ia a om om;have h:=h.put (i:=k) (k:=4) c.ip a om om;have h:=h.put (i:=k) (k:=5) c.fa a om om;have h:=h.put (i:=k) (k:=6) c.fp a om om;have h:=h.put (i:=k) (k:=7) c.po a om om;have h:=h.put (i:=k) (k:=8) c.st a om om;have h:=h.put (i:=k) (k:=9) c.un a om om;simp only[upd_same,xM]at h;exact h
theorem XQ (w:World) (b k:Nat) (c:Ce):aC b w ((((((((w.setCell (b,1+k * 10+2) c.pr).setCell (b,1+k * 10+2+1) c.ia).setCell (b,1+k * 10+2+2) c.ip).setCell (b,1+k * 10+2+3) c.fa).setCell (b,1+k * 10+2+4) c.fp).setCell (b,1+k * 10+2+5) c.po).setCell (b,1+k * 10+2+6) c.st).setCell (b,1+k * 10+2+7) c.un) :=
 (((((((aC.set b _ w _).trans (aC.set b _ _ _)).trans (aC.set b _ _ _)).trans (aC.set b _ _ _)).trans (aC.set b _ _ _)).trans (aC.set b _ _ _)).trans (aC.set b _ _ _)).trans (aC.set b _ _ _)
theorem xQ (b:Nat) (low:Int) (T:Tb) (k:Nat) (c:Ce) (w:World) (t:Tab w b low T) (a:k < 32) (q:0<=(T k).ve) (s:(T k).ve<=1000000000) :
  Calls prog 258 #[.pointer (some (b,0)),k,bI c] w fun e w'=>e=.returned (.tuple #[])/\Tab w' b low (wJ T k c.pr c.ia c.ip c.fa c.fp c.po c.st c.un)/\aC b w w':=by
 have u:=jH t;have x:=t.lt;have y:=jN k
 have z:(k:Int) < 32:=by omega
 have m:bI c=.agg #[c.pr,c.ia,c.ip,c.fa,c.fp,c.po,c.st,c.un]:=rfl;rw[m];clear t m;go_enter func258,ntmps258;go_wp2_with fail;have j:Hid (Below w w (w.alloc (.cells #[c.pr,c.ia,c.ip,c.fa,c.fp,c.po,c.st,c.un] 115))):=(aH _ _).alloc nL _;have f:Hid (Tab (w.alloc (.cells #[c.pr,c.ia,c.ip,c.fa,c.fp,c.po,c.st,c.un] 115)) b low T):=u.alloc _;have A:(w.alloc (.cells #[c.pr,c.ia,c.ip,c.fa,c.fp,c.po,c.st,c.un] 115)).cell? (w.heap.size,0)=c.pr:=(nw _ _ _ _).trans rfl;have B:(w.alloc (.cells #[c.pr,c.ia,c.ip,c.fa,c.fp,c.po,c.st,c.un] 115)).cell? (w.heap.size,1)=c.ia:=(nw _ _ _ _).trans rfl;have C:(w.alloc (.cells #[c.pr,c.ia,c.ip,c.fa,c.fp,c.po,c.st,c.un] 115)).cell? (w.heap.size,2)=c.ip:=(nw _ _ _ _).trans rfl;have D:(w.alloc (.cells #[c.pr,c.ia,c.ip,c.fa,c.fp,c.po,c.st,c.un] 115)).cell? (w.heap.size,3)=c.fa:=(nw _ _ _ _).trans rfl;have E:(w.alloc (.cells #[c.pr,c.ia,c.ip,c.fa,c.fp,c.po,c.st,c.un] 115)).cell? (w.heap.size,4)=c.fp:=(nw _ _ _ _).trans rfl;have F:(w.alloc (.cells #[c.pr,c.ia,c.ip,c.fa,c.fp,c.po,c.st,c.un] 115)).cell? (w.heap.size,5)=c.po:=(nw _ _ _ _).trans rfl;have G:(w.alloc (.cells #[c.pr,c.ia,c.ip,c.fa,c.fp,c.po,c.st,c.un] 115)).cell? (w.heap.size,6)=c.st:=(nw _ _ _ _).trans rfl;have H:(w.alloc (.cells #[c.pr,c.ia,c.ip,c.fa,c.fp,c.po,c.st,c.un] 115)).cell? (w.heap.size,7)=c.un:=(nw _ _ _ _).trans rfl;generalize w.alloc (.cells #[c.pr,c.ia,c.ip,c.fa,c.fp,c.po,c.st,c.un] 115)=w0 at *;have I:=f.at' (k:=2) a om;have o:=f.at' (k:=3) a om;have J:=f.at' (k:=4) a om;have K:=f.at' (k:=5) a om;have L:=f.at' (k:=6) a om;have M:=f.at' (k:=7) a om;have N:=f.at' (k:=8) a om;have O:=f.at' (k:=9) a om;have p:=f.fr;generalize P:w.heap.size=Z at *;go_region;have l:=jH ((XP f k c a).drew);have Q:Hid (aC b w ((((((((w0.setCell (b,1+k * 10+2) c.pr).setCell (b,1+k * 10+2+1) c.ia).setCell (b,1+k * 10+2+2) c.ip).setCell (b,1+k * 10+2+3) c.fa).setCell (b,1+k * 10+2+4) c.fp).setCell (b,1+k * 10+2+5) c.po).setCell (b,1+k * 10+2+6) c.st).setCell (b,1+k * 10+2+7) c.un).drew):=by
  subst P;exact((aC.of j.out).trans (XQ w0 b k c)).then bD
 generalize ((((((((w0.setCell (b,1+k * 10+2) c.pr).setCell (b,1+k * 10+2+1) c.ia).setCell (b,1+k * 10+2+2) c.ip).setCell (b,1+k * 10+2+3) c.fa).setCell (b,1+k * 10+2+4) c.fp).setCell (b,1+k * 10+2+5) c.po).setCell (b,1+k * 10+2+6) c.st).setCell (b,1+k * 10+2+7) c.un).drew=w1 at *;clear I o J K L M N O A B C D E F G H p j f;have o:w1.cell? (b,1+k * 10+1)=(T k).ve:=by
  have:=l.at' (k:=1) a om;rw[upd_same]at this;exact this
 have p:=l.fr;have R:IntKind.i64.wrap ((T k).ve+1)=(T k).ve+1:=by rw[iI];omega
 go_wp2_with fail;go_region;go_end0
 refine⟨rfl,?_,(Q.trans (aC.set b _ _ _)).then bD⟩;have h:=(l.put (i:=k) (k:=1) ((T k).ve+1) a om om).drew;simp only[upd_same,xM]at h;exact h
section
variable {w:World} {s:Nat->Addr}
structure Wv (w:World) (s:Nat->Addr):Prop where
 c1:w.cell? (0,0)=some (.iface 359 (.pointer (some (s 1))))
 c3:w.cell? (4,0)=some (.iface 359 (.pointer (some (s 3))))
 c4:w.cell? (18,0)=some (.iface 359 (.pointer (some (s 4))))
 c5:w.cell? (5,0)=some (.iface 359 (.pointer (some (s 5))))
theorem Wv.below {w':World} (S:Wv w s) (a:Below w w w'):Wv w' s:=⟨tk a S.c1,tk a S.c3,tk a S.c4,tk a S.c5⟩
structure OX (w:World) (s:Nat->Addr):Prop where
 c4:w.cell? (18,0)=some (.iface 359 (.pointer (some (s 4))))
 c5:w.cell? (5,0)=some (.iface 359 (.pointer (some (s 5))))
theorem OX.below {w':World} (S:OX w s) (a:Below w w w'):OX w' s:=⟨tk a S.c4,tk a S.c5⟩
theorem Wv.s45 (S:Wv w s):OX w s:=⟨S.c4,S.c5⟩
theorem Ky (b:Nat) (low:Int) (T:Tb) (k:Int) (s:Nat->Addr) (w:World) (S:Wv w s) (t:Tab w b low T) :
  Calls prog 275 #[.pointer (some (b,0)),k] w fun e w'=>e=.returned (aO s (gK T k))/\Below w w w':=by
 have L:Hid (Wv w s):=S;have a:Hid (Tab w b low T):=t;have s1:=S.c1;have s3:=S.c3;clear t S;by_cases m:k < 0\/32<=k
 ·have q:(decide (0<=k) && decide (k < 32))=false:=by
   rcases m with h | h
   ·rw[gQ om];rfl
   ·rw[gQ (p:=k < 32) om,Bool.and_false]
  have I:Hid (gK T k=2):=by show _=_;unfold gK;rw[aj m]
  go_enter func275,ntmps275;go_wp2_with fail;refine(wL k _).mono ?_;rintro e u ⟨rfl,rfl⟩;rw[q];go_wp2_with fail;go_ret;exact⟨by rw[I.out];rfl,aH _ _⟩
 ·have J:0<=k:=by omega
  have K:k < 32:=by omega
  obtain⟨j,rfl⟩:∃j:Nat,k=j:=⟨k.toNat,by omega⟩;have f:j < 32:=by omega
  have q:(decide (0<=(j:Int)) && decide ((j:Int) < 32))=true:=by rw[gG J,gG K];rfl
  obtain⟨c,x⟩:∃c,c=T j:=⟨_,rfl⟩;have G:Hid (gK T (j:Int)=if c.pr=0 then 4 else 0):=by
   show _=_;unfold gK;rw[ak m,x];rfl
  have y:=a.at' (k:=2) f om;have z:=a.at' (k:=3) f om;have A:=a.at' (k:=4) f om;have B:=a.at' (k:=5) f om;have C:=a.at' (k:=6) f om;have D:=a.at' (k:=7) f om;have E:=a.at' (k:=8) f om;have F:=a.at' (k:=9) f om;rw[<- x]at y z A B C D E F;simp only[Ce.get]at y z A B C D E F;clear m x;go_enter func275,ntmps275;go_wp2_with fail;refine(wL j _).mono ?_;rintro e u ⟨rfl,rfl⟩;rw[q];go_wp2_with fail;refine(pz c _).mono ?_;rintro e w2 ⟨rfl,i⟩;have H:Hid (Below u u w2):=i;have s3:=tk i s3;clear i y z A B C D E F s1;by_cases o:c.pr=0
  ·have l:(c.pr != 0)=false:=by rw[o];rfl
   rw[l];go_wp2_with fail;go_ret;exact⟨by rw[G.out,aj o];rfl,H⟩
  ·have l:(c.pr != 0)=true:=qY.2 o;rw[l];go_wp2_with fail;go_ret;exact⟨by rw[G.out,ak o];rfl,H⟩
end
theorem RF (s:Nat->Addr) {n:Nat} (h:n≠0):∃v,aO s n=.iface 359 v:=by
 cases n with
 | zero=>exact absurd rfl h
 | succ k=>exact⟨_,rfl⟩
theorem XR (b:Nat) (low:Int) (T:Tb) (k:Int) (n:Nat) (s:Nat->Addr) (w:World) (S:Wv w s) (t:Tab w b low T) (h:gI T n) (C:n<=1000000000) :
  Calls prog 237 #[.pointer (some (b,0)),k] w fun e w'=>e=.returned (aO s (gK T k))/\Tab w' b low (iZ T k)/\aC b w w':=by
 have y:Hid (Wv w s):=S;have p:Hid (Tab w b low T):=t;have z:Hid (gI T n):=h;clear t S h;go_enter func237,ntmps237;go_wp2_with fail;refine(Ky b low T k s _ y p).mono ?_;rintro e o ⟨rfl,a⟩;have q:Hid (Below w w o):=a;have u:Hid (Tab o b low T):=p.below a;clear a;by_cases f:gK T k=0
 ·have m:Hid (gK T k=0):=f;obtain⟨D,E,_⟩:=o9 f;obtain⟨j,rfl⟩:∃j:Nat,k=j:=⟨k.toNat,by omega⟩;have x:j < 32:=by omega
  rw[f];simp only[aO];clear f;go_wp2_with fail;have i:=z.out j x;refine(xQ b low T j vG o u x i.1 om).mono ?_;rintro e w2 ⟨rfl,l,c2⟩;have A:Hid (Tab w2 b low (iZ T j)):=by
   show Tab w2 b low (iZ T j);unfold iZ;rw[aj m.out,fJ];exact l
  have B:Hid (aC b w w2):=(aC.of q.out).trans c2;clear l c2 i;go_wp2_with fail;go_ret;exact⟨by rw[m.out];rfl,A,B⟩
 ·have m:Hid (gK T k≠0):=f;obtain⟨v,h⟩:=RF s f;rw[h];clear f;go_wp2_with fail;go_ret;refine⟨h ▸ rfl,?_,aC.of q.out⟩;unfold iZ;rw[ak m.out];exact u
section
variable {T:Tb} {now:Int} {n b:Nat} {w:World} {v:Value}
def ni (now:Int) (c:Ce):Bool:=(c.pr != 0) && decide (c.un<=now)
def jF (T:Tb) (now:Int) (n:Nat):Tb:=fun j=>if j < n/\ni now (T j)=true then ⟨(T j).ve+1,0,0,0,0,0,0,0,0⟩ else T j
def qx (T:Tb) (now:Int):Nat->List Int
 | 0=>[]
 | n+1=>if ni now (T n)=true then qx T now n++[(n:Int)] else qx T now n
theorem Dj (T:Tb) (now:Int):∀n,(qx T now n).length<=n
 | 0=>by simp[qx]
 | n+1=>by
  have:=Dj T now n;unfold qx;split
  ·simp;omega
  ·omega
theorem Gt (T:Tb) (now:Int):jF T now 0=T:=by funext j;simp[jF]
theorem uJ (T:Tb) (now:Int) (n:Nat):jF T now n n=T n:=by simp[jF]
theorem Ba (h:ni now (T n)=false):jF T now (n+1)=jF T now n:=by
 funext j
 unfold jF;by_cases e:j=n
 ·subst e;simp[h]
 ·by_cases a:j < n
  ·simp[a,show j < n+1 by omega]
  ·simp[a,show ¬j < n+1 by omega]
theorem Kz (h:ni now (T n)=true):wJ (jF T now n) n 0 0 0 0 0 0 0 0=jF T now (n+1):=by
 funext j
 unfold wJ upd;rw[uJ];unfold jF;by_cases e:j=n
 ·subst e;simp[h]
 ·rw[ak e];by_cases a:j < n
  ·simp[a,show j < n+1 by omega]
  ·simp[a,show ¬j < n+1 by omega]
theorem II {m:Nat} (h:gI T m) (now:Int) (n:Nat):gI (jF T now n) (m+1):=fun j a=>by
 have:=h j a;unfold jF;split
 ·simp only;omega
 ·omega
theorem Us (f:n < 32) (h:ni now (T n)=true):iZ (jF T now n) (n:Int)=jF T now (n+1):=by
 have a:(T n).pr≠0:=by
  unfold ni at h;simp at h;exact h.1
 have e:gK (jF T now n) (n:Int)=0:=by
  unfold gK;rw[ak om,fJ,uJ,ak a]
 unfold iZ;rw[aj e,fJ,Kz h]
def tH (n:Int):Value:=.int .i64 n
theorem Tryz.RG:(prog.info? 3).map (fun i=>(i.zero,i.size,i.bytes))=some (some (.int .i64 0),1,8):=by kernel_rfl
def IJ (w:World) (v:Value) (a:List Int):Prop:=∃p cap,v=.slice p a.length cap/\∀(j:Nat) x,a[j]? = some x->∃g,p=some ⟨g,0,none⟩/\w.cell? ⟨g,j,none⟩=some (.int .i64 x)
theorem IJ.pF {base:Nat} {xs:List Int} (h:w.ownsRow base 3 1 v n (xs.map tH)):IJ w v xs:=by
 obtain⟨i,k⟩:=h;have l:n=xs.length:=by simpa using i.symm
 subst l;rcases k with⟨rfl,h0⟩ | ⟨g,cap,cur,rfl,_,hh,_,_,_,ht⟩
 ·refine⟨none,0,by rw[h0],fun j x a=>?_⟩;obtain⟨e,_⟩:=List.getElem?_eq_some_iff.1 a;omega
 ·refine⟨some (g,0),cap,rfl,fun j x a=>⟨g,rfl,?_⟩⟩;obtain⟨e,_⟩:=List.getElem?_eq_some_iff.1 a;have f:(xs.map tH)[j]? = some (tH x):=by rw[kK,a];rfl
  rw[<- ht,kG,aj om,sQ]at f;rw[aP w g j _ _ _ hh];exact f
theorem IJ.below {w':World} {xs:List Int} (h:IJ w v xs) (a:Below w w w'):IJ w' v xs:=by
 obtain⟨p,cap,f,i⟩:=h;refine⟨p,cap,f,fun j x k=>?_⟩;obtain⟨g,e,l⟩:=i j x k;exact⟨g,e,tk a l⟩
theorem KC {w':World} {base:Nat} {cs:List Value} (h:w.ownsRow base 3 1 v n cs) (a:aC b w w') (j:b < base):w'.ownsRow base 3 1 v n cs:=by
 refine h.kept (row:=some b) ⟨a.os,a.tape,a.output,a.size,fun k f i=>a.block k f (fun e=>i (by rw[e]))⟩ ?_;rcases hv:v.ownBlock with _ | q
 ·exact .inl rfl
 ·refine .inr fun e=>?_;have:=(h.lt q hv).1;obtain rfl:=sS e;omega
theorem Gu {u u':World} {row:Option Nat} (h:aC b w u) (a:u.grownBy u' row) (hr:∀k,row=some k->w.heap.size<=k):aC b w u' :=
 ⟨a.os.trans h.os,a.tape.trans h.tape,a.output.trans h.output,dL h.size a.size,fun k f i=>(a.block k (ji f h.size) (fun e=>by have:=hr k e.symm;omega)).trans (h.block k f i)⟩
theorem tab_grown {N:Nat} {low:Int} {u u':World} {row:Option Nat} (h:Tab u b low T) (a:u.grownBy u' row) (hr:∀k,row=some k->N<=k) (f:b < N):Tab u' b low T:=by
 unfold Tab;rw[a.block b h.lt (fun e=>by have:=hr b e.symm;omega)];exact h
theorem KD (h:ni now (T n)=true):qx T now (n+1)=qx T now n++[(n:Int)]:=by
 rw[qx,aj h]
theorem Bc (h:ni now (T n)=false):qx T now (n+1)=qx T now n:=by
 rw[qx,ak (by rw[h];simp)]
theorem OY (b:Nat) (low:Int) (T:Tb) (now:Int) (n:Nat) (w:World) (t:Tab w b low T) (V:gI T n) (hn:n<=100000000) :
  Calls prog 221 #[.pointer (some (b,0)),now] w fun e w'=>∃v,e=.returned v/\IJ w' v (qx T now 32)/\(∀q,v.ownBlock=some q->w.heap.size<=q)/\Tab w' b low (jF T now 32)/\aC b w w':=by
 obtain⟨i0,hi,F,G,H⟩:=lu Tryz.RG;have HT:=jH t;have HV:=jH V;have o:=tC t;have p:=jH t.lt;clear t V;go_enter func221,ntmps221;go_wp2_with (refine bP rfl 265 _ rfl _ _ rfl o ?_)
 clear o;go_loopw [5,12] (fun v t wr=>∃j:Nat,j<=32/\t=.int .i64 j/\wr.ownsRow w 3 1 v (qx T now j).length ((qx T now j).map tH)/\Tab wr b low (jF T now j)/\aC b w wr) (fun _ t _=>32 - (intOf t).toNat)
 case atStart=>exact⟨0,by omega,rfl,ql _ _ _ _,by rw[Gt];exact HT,aC.refl _ _⟩
 case round =>
  obtain⟨j,hj,rfl,f,s,x⟩:=hrel;have B:=jH f;have I:=jH s;have J:=jH x;clear f s x;by_cases i:j < 32
  ·obtain⟨c,K⟩:∃c,c=T j:=⟨_,rfl⟩;have L:=jH K;have M:(Instr.index 265 (.agg (aK T)) j).run prog wr=.ok (.agg #[j,c.ve,c.pr,c.ia,c.ip,c.fa,c.fp,c.po,c.st,c.un]) wr:=by
    rw[K];exact qK T j i wr
   clear K;go_wp2_with fail;have W:Hid ((wr.alloc (.cells #[j,c.ve,c.pr,c.ia,c.ip,c.fa,c.fp,c.po,c.st,c.un] 117)).cell? (wr.heap.size,9)=c.un):=(nw _ _ _ _).trans rfl;refine jM (pz c _) fun w2 l=>?_;have d9:=tk l W;have h:Hid (Below wr wr w2):=t2 (aB _ _) l;have C:=jH (B.kept (row:=none) ⟨h.os,h.tape,h.out.output,h.size,fun k hk _=>h.block k hk⟩ (Classical.em _));have D:=jH (I.below h);have E:=jH (J.then h);clear l M W B I J h;have N:Hid (ni now (T j)=((c.pr != 0) && decide (c.un<=now))):=by show _=_;rw[<- L.out];rfl
   rcases h1:(c.pr != 0) with _ | _
   ·have y:Hid (ni now (T j)=false):=by show _=_;rw[N.out,h1];rfl
    go_wp2_with fail;go_roundw
    case rel=>exact⟨j+1,by omega,by go_num,by rw[Bc y.out];exact C,by rw[Ba y.out];exact D,E⟩
    case measure=>simp[intOf];omega
   by_cases X:c.un<=now
   ·have Y:Hid (ni now (T j)=true):=by show _=_;rw[N.out,h1,gG X];rfl
    go_wp2_with fail;have z:=HV.out j i;have O:=uJ T now j;refine jM (xQ b low (jF T now j) j vG _ D i (by rw[O];exact z.1) (by rw[O];omega)) fun Z ⟨t3,c3⟩=>?_;have T3:Hid (Tab Z b low (jF T now (j+1))):=by
     show Tab _ _ _ _;rw[<- Kz Y.out];exact t3
    have P:=jH (KC C c3 p);have Q:=jH (E.trans c3);have R:=jH (Dj T now j);have Zg:=R.out;clear t3 c3 z O D C E d9;go_wp2_with (at_builtin;refine vw _ rfl _ _ 31 rfl w 3 i0 (.int .i64 0) 1 8 Tryz.underlying31 hi F G H rfl dC u5 _ _ rfl (P.alloc _) ⟨Z.heap.size,0,none⟩ 1 1 [tH j] rfl rfl ?c1 ?c2 ?c3 ?c4 ?c5 ?_)
    case c1 =>
     intro q u S;rw[qo,fE,nw];simpa [tH] using S
    case c2 =>
     intro u S;obtain rfl:=jA.1 S;rfl
    case c3=>unfold maxLen;omega
    case c4=>omega
    case c5=>have:=Q.size;simp;omega
    intro v4 w4 A m _;have a:∀q,u5.ownBlock=some q->w.heap.size<=q:=fun q U=>(P.lt _ U).1;have O4:Hid (w4.ownsRow w 3 1 v4 (qx T now (j+1)).length ((qx T now (j+1)).map tH)):=by
     show w4.ownsRow _ _ _ _ _ _;rw[KD Y.out,jw,TL];exact A
    have T4:=jH (tab_grown (T3.alloc _) m a p);have C4:Hid (aC b w w4):=Gu (Q.then (aB _ _)) m a;clear A m a T3 P Q;go_wp2_with fail;go_roundw
    case rel=>exact⟨j+1,by omega,by go_num,O4,T4,C4⟩
    case measure=>simp[intOf];omega
   ·have y:Hid (ni now (T j)=false):=by show _=_;rw[N.out,h1,gQ X];rfl
    go_wp2_with fail;go_roundw
    case rel=>exact⟨j+1,by omega,by go_num,by rw[Bc y.out];exact C,by rw[Ba y.out];exact D,E⟩
    case measure=>simp[intOf];omega
  ·obtain rfl:j=32:=by omega
   go_wp2_with fail;go_ret;exact⟨_,rfl,IJ.pF B,fun q U=>(B.lt _ U).1,I,J⟩
end
theorem XT (b:Nat) (low:Int) (T:Tb) (j:Nat) (w:World) (t:Tab w b low T) (a:j < 32) :
  Calls prog 273 #[.pointer (some (b,0)),j] w fun e w'=>e=.returned (.tuple #[cellV j (T j),.nilIface])/\Below w w w':=by
 have f:Hid (Tab w b low T):=t;have z:=t.lt;clear t;have A:(0:Int)<=(j:Int):=by omega
 have B:(j:Int) < 32:=by omega
 have C:(decide (0<=(j:Int)) && decide ((j:Int) < 32))=true:=by rw[gG A,gG B];rfl
 unfold cellV;generalize h:T j=c;have i:=f.at' (k:=0) a om;have l:=f.at' (k:=1) a om;have m:=f.at' (k:=2) a om;have o:=f.at' (k:=3) a om;have p:=f.at' (k:=4) a om;have q:=f.at' (k:=5) a om;have s:=f.at' (k:=6) a om;have u:=f.at' (k:=7) a om;have x:=f.at' (k:=8) a om;have y:=f.at' (k:=9) a om;rw[h]at i l m o p q s u x y;simp only[Ce.get,oV]at i l m o p q s u x y;clear h;go_enter func273,ntmps273;go_wp2_with fail;refine(wL j _).mono ?_;rintro e D ⟨rfl,rfl⟩;rw[C];go_wp2_with fail;exact bf (v:=.tuple #[.agg #[j,c.ve,c.pr,c.ia,c.ip,c.fa,c.fp,c.po,c.st,c.un],.nilIface]) (by simp[results,results273,go_sem]) rfl ⟨rfl,(aH _ _).alloc nL _⟩
theorem acD (b:Nat) (low:Int) (T:Tb) (c:Ce) (n:Nat) (s:Nat->Addr) (w:World) (S:OX w s) (t:Tab w b low T) (K:gI T n) (Y:n<=1000000000) :
  Calls prog 292 #[.pointer (some (b,0)),bI c] w fun e w'=>e=.returned (.tuple #[.int .i64 ((ku T c.pr c.ia c.ip c.fa c.fp c.po c.st c.un).1:Nat),aO s (ku T c.pr c.ia c.ip c.fa c.fp c.po c.st c.un).2.1])/\Tab w' b low (ku T c.pr c.ia c.ip c.fa c.fp c.po c.st c.un).2.2/\aC b w w':=by
 have y:=jH S;have i:=jH t;have Q:=jH K;have L:bI c=.agg #[c.pr,c.ia,c.ip,c.fa,c.fp,c.po,c.st,c.un]:=rfl;rw[L];clear t S K L;go_enter func292,ntmps292;go_wp2_with fail;have z:Hid (Below w w (w.alloc (.cells #[c.pr,c.ia,c.ip,c.fa,c.fp,c.po,c.st,c.un] 115))):=aB _ _;have A:=jH (xP w c);generalize w.alloc (.cells #[c.pr,c.ia,c.ip,c.fa,c.fp,c.po,c.st,c.un] 115)=w0 at *;generalize hZ:w.heap.size=Z at A ⊢;refine jM (Dh b low T c.pr c.ia c.ip c.fa c.fp w0 (i.below z)) fun R j=>?_;have p:=jH (t2 z j);have a:=jH (A.below j);clear j z A;have f:=y.below p;have s4:=f.c4;clear f;rcases hf:fst T (iQ c.pr c.ia c.ip c.fa c.fp) with _ | U
 ·have B:=jH hf;simp only[Az,Cb];clear hf s4;have C:=a.c0;have D:=a.c1;have E:=a.c2;have F:=a.c3;have G:=a.c4;have H:=a.c5;have I:=a.c6;have J:=a.c7;go_wp2_with fail;clear C D E F G H I J;refine jM (Di b low T c.pr c.po c.fa c.fp R (i.below p)) fun w2 l=>?_;have q:=jH (t2 p l);have M:=jH (a.below l);clear l p a;have f:=y.below q;have s4:=f.c4;clear f;rcases hf:fst T (eH c.pr c.po c.fa c.fp) with _ | U
  ·have N:=jH hf;simp only[Az,Cb];clear hf s4;go_wp2_with fail;refine jM (Kw b low T w2 (i.below q)) fun V m=>?_;have u:=jH (t2 q m);have h:=jH (M.below m);clear m q M;have f:=y.below u;have s5:=f.c5;clear f;rcases hf:fst T mY with _ | k
   ·have o:Hid (ku T c.pr c.ia c.ip c.fa c.fp c.po c.st c.un=(0,6,T)):=by show _=_;unfold ku;rw[B.out,N.out,hf]
    simp only[Az,Cb];clear hf;go_wp2_with fail;go_region;go_wp2_with fail;go_ret2;rw[o.out];exact⟨rfl,(i.below u).drew,(aC.of u.out).then bD⟩
   ·have o:Hid (ku T c.pr c.ia c.ip c.fa c.fp c.po c.st c.un=(k,0,wJ T k c.pr c.ia c.ip c.fa c.fp c.po c.st c.un)):=by show _=_;unfold ku;rw[B.out,N.out,hf]
    have O:=qm hf;simp only[Aw,BZ];clear hf s5;have C:=h.c0;have D:=h.c1;have E:=h.c2;have F:=h.c3;have G:=h.c4;have H:=h.c5;have I:=h.c6;have J:=h.c7;go_wp2_with fail;clear C D E F G H I J;have x:=Q.out k O;refine jM (xQ b low T k c V (i.below u) O x.1 om) fun w4 ⟨P,c4⟩=>?_;have W:=jH P;have X:=jH ((aC.of u.out).trans c4);clear P c4 x;go_wp2_with fail;go_ret2;rw[o.out];exact⟨rfl,W,X⟩
  ·have o:Hid (ku T c.pr c.ia c.ip c.fa c.fp c.po c.st c.un=(0,5,T)):=by show _=_;unfold ku;rw[B.out,hf]
   simp only[Aw,BZ];clear hf;go_wp2_with fail;go_region;go_wp2_with fail;go_ret2;rw[o.out];exact⟨rfl,(i.below q).drew,(aC.of q.out).then bD⟩
 ·have o:Hid (ku T c.pr c.ia c.ip c.fa c.fp c.po c.st c.un=(0,5,T)):=by show _=_;unfold ku;rw[hf]
  simp only[Aw,BZ];clear hf;go_wp2_with fail;go_region;go_wp2_with fail;go_ret2;rw[o.out];exact⟨rfl,(i.below p).drew,(aC.of p.out).then bD⟩
theorem gI.set {T:Tb} {n:Nat} (h:gI T n) (k st un:Int):gI (nO T k st un) (n+1):=by
 unfold nO;split
 ·rename_i e;have:=o9 e;exact h.lay (k:=k.toNat) (T k.toNat).pr (T k.toNat).ia (T k.toNat).ip (T k.toNat).fa (T k.toNat).fp (T k.toNat).po st un om
 ·exact h.more om
theorem set_any (b:Nat) (low:Int) (T:Tb) (k st un:Int) (n:Nat) (s:Nat->Addr) (w:World) (S:Wv w s) (t:Tab w b low T) (o:gI T n) (N:n<=1000000000) :
  Calls prog 238 #[.pointer (some (b,0)),k,st,un] w fun e w'=>e=.returned (aO s (gK T k))/\Tab w' b low (nO T k st un)/\aC b w w':=by
 have I:Hid (Wv w s):=S;have F:Hid (Tab w b low T):=t;have J:Hid (gI T n):=o;clear t S o;go_enter func238,ntmps238;go_wp2_with fail;refine(Ky b low T k s _ I F).mono ?_;rintro e G ⟨rfl,h⟩;have H:Hid (Below w w G):=h;have a:Hid (Tab G b low T):=F.below h;clear h;by_cases l:gK T k=0
 ·have q:Hid (gK T k=0):=l;obtain⟨O,P,_⟩:=o9 l;obtain⟨j,rfl⟩:∃j:Nat,k=j:=⟨k.toNat,by omega⟩;have f:j < 32:=by omega
  rw[l];simp only[aO];clear l;obtain⟨c,u⟩:∃c,c=T j:=⟨_,rfl⟩;have K:Hid (c=T j):=u;have x:=a.at' (i:=j) (k:=2) f om;have y:=a.at' (i:=j) (k:=3) f om;have z:=a.at' (i:=j) (k:=4) f om;have A:=a.at' (i:=j) (k:=5) f om;have B:=a.at' (i:=j) (k:=6) f om;have C:=a.at' (i:=j) (k:=7) f om;have D:=a.at' (i:=j) (k:=8) f om;have E:=a.at' (i:=j) (k:=9) f om;rw[<- u]at x y z A B C D E;simp only[Ce.get]at x y z A B C D E;clear u;go_wp2_with fail;clear x y z A B C D E;have p:=J.out j f;refine(xQ b low T j ⟨0,c.pr,c.ia,c.ip,c.fa,c.fp,c.po,st,un⟩ _ (a.below (aB _ _)) f p.1 om).mono ?_;rintro e w2 ⟨rfl,m,c2⟩;have L:Hid (Tab w2 b low (nO T j st un)):=by
   show Tab w2 b low (nO T j st un);unfold nO;rw[aj q.out,fJ];rw[K.out]at m;exact m
  have M:Hid (aC b w w2):=(aC.of (t2 H (aB _ _))).trans c2;clear m c2 p;go_wp2_with fail;go_ret;exact⟨by rw[q.out];rfl,L,M⟩
 ·have q:Hid (gK T k≠0):=l;obtain⟨v,o⟩:=RF s l;rw[o];clear l;go_wp2_with fail;go_ret;refine⟨o ▸ rfl,?_,aC.of H.out⟩;unfold nO;rw[ak q.out];exact a
structure EnB (w:World) (Z:Nat) (ia ip fa fp:Int):Prop where
 c0:w.cell? (Z,0)=ia
 c1:w.cell? (Z,1)=ip
 c2:w.cell? (Z+1,0)=fa
 c3:w.cell? (Z+1,1)=fp
theorem EnB.below {w w':World} {Z:Nat} {e f i fp:Int} (h:EnB w Z e f i fp) (a:Below w w w'):EnB w' Z e f i fp:=⟨tk a h.c0,tk a h.c1,tk a h.c2,tk a h.c3⟩
theorem IK (w:World) (a e f fp:Int):EnB ((w.alloc (.cells #[a,e] 33)).alloc (.cells #[f,fp] 33)) w a e f fp:=by
 have s1:(w.alloc (.cells #[a,e] 33)).heap.size=w.heap.size+1:=by simp
 have h:=nw (w.alloc (.cells #[a,e] 33)) #[f,fp] 33;rw[s1]at h;exact⟨tk (aB _ _) ((nw w _ _ 0).trans rfl),tk (aB _ _) ((nw w _ _ 1).trans rfl),(h 0).trans rfl,(h 1).trans rfl⟩
theorem acE (b:Nat) (low:Int) (T:Tb) (j h i a f st un:Int) (n:Nat) (s:Nat->Addr) (w:World) (S:OX w s) (t:Tab w b low T) (hl0:0<=low) (hl1:low<=100000) (L:gI T n) (hn:n<=1000000000) :
  Calls prog 272 #[.pointer (some (b,0)),j,.agg #[h,i],.agg #[a,f],st,un] w fun e w'=>e=.returned (.tuple #[.int .i64 ((iC T low j h i a f st un).1:Nat),aO s (iC T low j h i a f st un).2.1])/\Tab w' b low (iC T low j h i a f st un).2.2/\aC b w w':=by
 have F:=jH S;have m:=jH t;have U:=jH L;clear t S L;go_enter func272,ntmps272;go_wp2_with fail;have G:Hid (Below w w ((w.alloc (.cells #[h,i] 33)).alloc (.cells #[a,f] 33))):=t2 (aB _ _) (aB _ _);have H:=jH (IK w h i a f);generalize (w.alloc (.cells #[h,i] 33)).alloc (.cells #[a,f] 33)=w0 at *;generalize hZ:w.heap.size=Z at H ⊢;refine jM (Dh b low T j h i a f w0 (m.below G)) fun V o=>?_;have z:=jH (t2 G o);have M:=jH (H.below o);clear o G H;have l:=F.below z;have s4:=l.c4;clear l;rcases hf:fst T (iQ j h i a f) with _ | k0
 ·have I:=jH hf;simp only[Az,Cb];clear hf s4;go_wp2_with fail;refine jM (Kw b low T V (m.below z)) fun w2 q=>?_;have A:=jH (t2 z q);have D:=jH (M.below q);clear q z M;have l:=F.below A;have s5:=l.c5;clear l;rcases hf:fst T mY with _ | k
  ·have u:Hid (iC T low j h i a f st un=(0,6,T)):=by show _=_;unfold iC;rw[I.out,hf]
   simp only[Az,Cb];clear hf;go_wp2_with fail;go_region;go_wp2_with fail;go_ret2;rw[u.out];exact⟨rfl,(m.below A).drew,(aC.of A.out).then bD⟩
  ·have N:=jH hf;have O:=qm hf;simp only[Aw,BZ];clear hf s5;have J:=D.c2;have K:=D.c3;go_wp2_with fail;clear J K;refine(XO b low T j a f w2 (m.below A) hl0 hl1).mono ?_;rintro e W ⟨⟨x,rfl,P⟩,y⟩;have Q:=jH P;have B:=jH (t2 A y);have E:=jH (D.below y);clear y A D P;have l:=F.below B;have s5:=l.c5;clear l;rcases hf:zW T low j a f with _ | p
   ·have u:Hid (iC T low j h i a f st un=(0,6,T)):=by show _=_;unfold iC;rw[I.out,N.out,hf]
    simp only[Az];clear hf;go_wp2_with fail;go_region;go_wp2_with fail;go_ret2;rw[u.out];exact⟨rfl,(m.below B).drew,(aC.of B.out).then bD⟩
   ·have u:Hid (iC T low j h i a f st un=(k,0,wJ T k j h i a f (low+p) st un)):=by show _=_;unfold iC;rw[I.out,N.out,hf]
    obtain rfl:=Q.out p hf;simp only[Aw];clear hf s5 Q;have X:=E.c0;have Y:=E.c1;have J:=E.c2;have K:=E.c3;go_wp2_with fail;clear X Y J K;have C:=U.out k O;refine jM (xQ b low T k ⟨0,j,h,i,a,f,low+p,st,un⟩ W (m.below B) O C.1 om) fun w4 ⟨R,c4⟩=>?_;have T4:=jH R;have C4:=jH ((aC.of B.out).trans c4);clear R c4 C;go_wp2_with fail;go_ret2;rw[u.out];exact⟨rfl,T4,C4⟩
 ·have u:Hid (iC T low j h i a f st un=(0,5,T)):=by show _=_;unfold iC;rw[hf]
  simp only[Aw,BZ];clear hf;go_wp2_with fail;go_region;go_wp2_with fail;go_ret2;rw[u.out];exact⟨rfl,(m.below z).drew,(aC.of z.out).then bD⟩
def rF (low:Int) (n:Nat):Array Value:=((List.range 321).map fun j=>if j=0 then .int .i64 low else .int .i64 (if (j - 1) % 10=0/\(j - 1) / 10 < n then (((j - 1) / 10:Nat):Int) else 0)).toArray
theorem ny (low:Int) (n:Nat):(rF low n).size=321:=by simp[rF]
theorem oP (low:Int) (n j:Nat) (h:j < 321):(rF low n)[j]? = some (if j=0 then .int .i64 low else .int .i64 (if (j - 1) % 10=0/\(j - 1) / 10 < n then (((j - 1) / 10:Nat):Int) else 0)):=by
 simp only[rF,vW,kK,yN h,nX]
theorem zero_eq : Tryz.zeroCells267=Array.replicate 321 (.int .i64 0):=by kernel_rfl
theorem zY (low:Int) : Tryz.zeroCells267.setIfInBounds 0 low=rF low 0:=by
 rw[zero_eq];apply vY;intro j;rw[BN,Array.size_replicate];by_cases a:j < 321
 ·rw[oP low 0 j a];by_cases e:j=0
  ·subst e;rfl
  ·rw[ak om,ak e,ak om,aeJ,aj a]
 ·rw[ak om,eP (by rw[Array.size_replicate];omega),eP (by rw[ny];omega)]
theorem zZ (low:Int) (n:Nat) (i:n < 32):(rF low n).setIfInBounds (1+n * 10) n=rF low (n+1):=by
 apply vY;intro j;rw[BN,ny];by_cases e:j < 321
 ·rw[oP low n j e,oP low (n+1) j e];by_cases f:1+n * 10=j
  ·subst f;rw[aj rfl,aj om,ak om,aj om];congr 3
   omega
  ·rw[ak f];by_cases a:j=0
   ·rw[aj a,aj a]
   ·rw[ak a,ak a];by_cases h:(j - 1) % 10=0/\(j - 1) / 10 < n
    ·rw[aj h,aj om]
    ·rw[ak h,ak om]
 ·rw[ak om,eP (by rw[ny];omega),eP (by rw[ny];omega)]
theorem Dk (low:Int):rF low 32=dY low newT:=by
 apply vY;intro j;by_cases h:j < 321
 ·rw[oP low 32 j h];by_cases f:j=0
  ·subst f;rw[jE];rfl
  ·have a:=mD low newT ((j - 1) / 10) ((j - 1) % 10) om om;rw[show 1+(j - 1) / 10 * 10+(j - 1) % 10=j from by omega]at a;rw[a,ak f];congr 2
   have i:(j - 1) % 10=0\/(j - 1) % 10=1\/(j - 1) % 10=2\/(j - 1) % 10=3\/(j - 1) % 10=4\/(j - 1) % 10=5\/(j - 1) % 10=6\/(j - 1) % 10=7\/(j - 1) % 10=8\/(j - 1) % 10=9:=by omega
   rcases i with e | e | e | e | e | e | e | e | e | e <;> rw[e]
   ·rw[aj ⟨rfl,by omega⟩];rfl
   all_goals (rw[ak om];rfl)
 ·rw[eP (by rw[ny];omega),eP (by rw[dZ];omega)]
def AP (w:World) (b:Nat) (low:Int) (n:Nat):Prop:=w.heap[b]? = some (.cells (rF low n) 267 (0,0))
theorem agb (w:World) :
  Calls prog 213 #[.int .i64 0] w fun e w'=>∃b,e=.returned (.tuple #[.pointer (some ⟨b,0,none⟩),.nilIface])/\Tab w' b 2000 newT/\w.heap.size<=b/\Below w w w':=by
 go_enter func213,ntmps213;go_wp2_with fail;have m:Hid (AP (w.alloc (.cells (Tryz.zeroCells267.setIfInBounds 0 (.int .i64 2000)) 267)) w 2000 0):=by
  show AP _ _ _ _;unfold AP;rw[dh,zY]
 have s:Hid (Below w w (w.alloc (.cells (Tryz.zeroCells267.setIfInBounds 0 (.int .i64 2000)) 267))):=(aH _ _).alloc nL _;generalize w.alloc (.cells (Tryz.zeroCells267.setIfInBounds 0 (.int .i64 2000)) 267)=w0 at *;generalize Tryz.zeroCells267.setIfInBounds 0 (.int .i64 2000)=zz at *;obtain⟨Z,k⟩:∃Z,Z=w.heap.size:=⟨_,rfl⟩;have o:=jH k;rw[<- k]at m ⊢;clear k;go_loopw [18] (fun t wr=>∃j:Nat,j<=32/\t=.int .i64 j/\AP wr Z 2000 j/\Below w w wr) (fun t _=>32 - (intOf t).toNat)
 case atStart=>exact⟨0,by omega,rfl,m,s⟩
 case round =>
  obtain⟨j,u,rfl,a,f⟩:=hrel;have i:=jH a;have p:=jH f;clear a f;by_cases l:j < 32
  ·have q:∃v,wr.cell? (Z,1+j * 10)=some v:=⟨_,(aP wr Z _ _ _ _ i).trans (oP _ _ _ om)⟩;obtain⟨v,q⟩:=q;have x:=jk wr Z (1+j * 10) _ _ i;have y:=jN j
   have z:(j:Int) < 32:=by omega
   go_wp2_with fail;go_roundw
   case rel =>
    refine⟨j+1,by omega,by go_num,?_,p.setCell (by have:=o.out;simp only;omega) _⟩;unfold AP;rw[bV wr Z _ _ _ _ i.out,zZ _ _ l]
   case measure=>simp[intOf];omega
  ·obtain rfl:j=32:=by omega
   go_wp2_with fail;go_ret2;refine⟨Z,rfl,?_,by have:=o.out;omega,p⟩;have h:=i.out;unfold AP at h;rw[Dk]at h;exact h
theorem agc (w:World) :
  Calls prog 213 #[.int .i64 1] w fun e w'=>∃b,e=.returned (.tuple #[.pointer (some ⟨b,0,none⟩),.nilIface])/\Tab w' b 2024 newT/\w.heap.size<=b/\Below w w w':=by
 go_enter func213,ntmps213;go_wp2_with fail;have m:Hid (AP (w.alloc (.cells (Tryz.zeroCells267.setIfInBounds 0 (.int .i64 2024)) 267)) w 2024 0):=by
  show AP _ _ _ _;unfold AP;rw[dh,zY]
 have s:Hid (Below w w (w.alloc (.cells (Tryz.zeroCells267.setIfInBounds 0 (.int .i64 2024)) 267))):=(aH _ _).alloc nL _;generalize w.alloc (.cells (Tryz.zeroCells267.setIfInBounds 0 (.int .i64 2024)) 267)=w0 at *;generalize Tryz.zeroCells267.setIfInBounds 0 (.int .i64 2024)=zz at *;obtain⟨Z,k⟩:∃Z,Z=w.heap.size:=⟨_,rfl⟩;have o:=jH k;rw[<- k]at m ⊢;clear k;go_loopw [18] (fun t wr=>∃j:Nat,j<=32/\t=.int .i64 j/\AP wr Z 2024 j/\Below w w wr) (fun t _=>32 - (intOf t).toNat)
 case atStart=>exact⟨0,by omega,rfl,m,s⟩
 case round =>
  obtain⟨j,u,rfl,a,f⟩:=hrel;have i:=jH a;have p:=jH f;clear a f;by_cases l:j < 32
  ·have q:∃v,wr.cell? (Z,1+j * 10)=some v:=⟨_,(aP wr Z _ _ _ _ i).trans (oP _ _ _ om)⟩;obtain⟨v,q⟩:=q;have x:=jk wr Z (1+j * 10) _ _ i;have y:=jN j
   have z:(j:Int) < 32:=by omega
   go_wp2_with fail;go_roundw
   case rel =>
    refine⟨j+1,by omega,by go_num,?_,p.setCell (by have:=o.out;simp only;omega) _⟩;unfold AP;rw[bV wr Z _ _ _ _ i.out,zZ _ _ l]
   case measure=>simp[intOf];omega
  ·obtain rfl:j=32:=by omega
   go_wp2_with fail;go_ret2;refine⟨Z,rfl,?_,by have:=o.out;omega,p⟩;have h:=i.out;unfold AP at h;rw[Dk]at h;exact h
theorem aeW (a:Nat) (w:World) (h:a < 2) :
  Calls prog 213 #[a] w fun e w'=>∃b,e=.returned (.tuple #[.pointer (some ⟨b,0,none⟩),.nilIface])/\Tab w' b (2000+a * 24) newT/\w.heap.size<=b/\Below w w w':=by
 have f:a=0\/a=1:=by omega
 rcases f with rfl | rfl
 ·exact agb w
 ·exact agc w
theorem Ut (b:Nat) (low:Int) (T:Tb) (w:World) (t:Tab w b low T) :
  Calls prog 164 #[.pointer (some (b,0))] w fun e w'=>e=.returned (.slice (some (w.heap.size,0)) 32 32)/\iD w' w T/\Below w w w':=by
 have a:=tC t;have h:=wK;have f:Hid ((aK T).all (·.oneCell')=true):=uI T;clear t;go_enter func164,ntmps164;go_wp2_with (first | refine bP rfl 265 _ rfl _ _ rfl a ?_ | refine Xa rfl 265 _ _ rfl w (aK T) rfl rfl 265 _ (dh w _) (pq T) (by rw[bY];first | rfl | simp) f ?_)
 rw[aeK];go_ret;exact⟨rfl,dh w _,(aH _ _).alloc nL _⟩
end Go.Proofs.YtnogmjekhjldcaaGreatDoor
