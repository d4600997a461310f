/-
  What the claimed theorem reaches, part Q35.
-/
import Derived.Test.YtnogmjekhjldcaaGreatDoorQ34
namespace Go.Proofs.YtnogmjekhjldcaaGreatDoor
open Go.RowKit Go.Proofs.Tryz
set_option maxRecDepth 100000
set_option maxHeartbeats 8000000
theorem Nr (g cap k:Nat) (R:List (List Value)) (r:List Value) (cur:Array Value) (w:World) (h:pX w g cap R cur) (hr:Five r) (z:k<=R.length) (o:R.length<=200) (p:cap<=maxLen) (f:Nat) (m:f≠g) (l:w.heap[f]? = some (.cells r.toArray 216 (0,0))) :
  Calls prog 148 #[.slice (some (g,0)) R.length cap,k,.slice (some (f,0)) 1 1] w fun e w'=>Y4 w g R.length k R r e w':=by
 have i:∀j u,r[j]? = some u->w.cell? ⟨f,j,none⟩=some u:=fun j u q=>by rw[aP w f _ _ _ _ l];simpa using q
 have s:f < w.heap.size:=by
  rcases dX f w with a | a
  ·exact a
  ·rw[eP a]at l;cases l
 by_cases x:k=R.length
 ·subst x;exact LX g cap R r cur w h hr o p f i
 ·by_cases y:R.length+1<=cap
  ·exact FI g cap k R r cur w h hr om y p f m l
  ·exact I9 g cap k R r cur w h hr om o om f i
theorem EU {α β γ:Type} (f:α->β->γ):∀(l:List α) (m:List β) (k:Nat) (a:α) (b:β),m.length=l.length->(List.zipWith f l m).insertIdx k (f a b)=List.zipWith f (l.insertIdx k a) (m.insertIdx k b)
 | _,_,0,_,_,_=>by simp
 | [],[],_+1,_,_,_=>by simp
 | [],_::_,_+1,_,_,h=>by simp at h
 | _::_,[],_+1,_,_,h=>by simp at h
 | _::l,_::m,k+1,a,b,h=>by simp[EU f l m k a b (by simpa using h)]
theorem aa0 {w0 w:World} {K:WK} {x:Wo} {t:Nat} {s:Nat->Addr} (S:jm w0 s) (h:Wd w0 w K x t) (n:Int) :
  Calls prog 88 #[.pointer (some (K.wb,0)),n] w fun e w'=>e=.returned (aO s (x.yj n))/\∃K',Wd w0 w' K' (x.bT n) t/\Mv K K' w w':=by
 have HS:Hid (jm w0 s):=S;have Y:Hid (jm w s):=S.below h.bl;have B:Hid (Wd w0 w K x t):=h;clear S h;go_enter func88,ntmps88;go_wp2_with fail;refine(zi B.wb B.fl n _ rfl).mono ?_;rintro e w1 ⟨rfl,hw⟩;obtain rfl:=hw.symm;clear hw;by_cases C:0<=n/\n < x.fl.length
 ·rw[gG C];obtain⟨i,rfl⟩:∃i:Nat,n=i:=⟨n.toNat,by omega⟩;have Q:i < x.fl.length:=by omega
  have HE:Hid (x.pK (i:Int)=0):=by show x.pK (i:Int)=0;unfold Wo.pK;rw[aj C]
  obtain⟨tt,J⟩:∃tt,x.fl[i]? = some tt:=⟨x.fl[i],fD Q⟩;obtain⟨v,hv⟩:∃v,K.cv[i]? = some v:=⟨K.cv[i]'(by rw[B.fl.len];exact Q),fD _⟩;have L:=B.fl.ok i tt v J hv;rcases B.fl.rows with⟨_,e⟩ | ⟨g,c,cur,hg,R,hc⟩
  ·rw[e]at Q;simp at Q
  have c7:w.cell? (K.wb,7)=some (.slice (some (g,0)) x.fl.length c):=by have:=B.wb.c 7;rw[hg]at this;exact this
  by_cases E:x.fl.length=200
  ·have F:Hid (x.yj (i:Int)=6/\x.bT (i:Int)=x):=by
    have e:x.yj (i:Int)=6:=by unfold Wo.yj;rw[aj HE.out,aj E]
    exact⟨e,by unfold Wo.bT;rw[ak (by rw[e];decide)]⟩
   have g5:=Y.c5;rw[E]at c7;clear C Q J hv L hg R hc;go_wp2_with fail;go_ret;exact⟨by rw[F.1];rfl,K,by rw[F.2];exact B,Mv.of bR⟩
  ·have F:Hid (x.yj (i:Int)=0/\x.bT (i:Int)={x with fl:=x.fl.insertIdx (i+1) tt}):=by
    have e:x.yj (i:Int)=0:=by unfold Wo.yj;rw[aj HE.out,ak E]
    exact⟨e,by unfold Wo.bT;rw[aj e,fJ,J]⟩
   have Zh:=B.fl.le;have G:=B.fl.len;have hr:=I4 J hv;have T:(gW x.fl K.cv).length=x.fl.length:=xZ G;have U:=B.tg 3 om g (by simp[WK.part,hg]);have Z:K.wb≠g:=fun e=>by have:=U.1;rw[<- e,B.Ls.1]at this;omega
   have Zi:g < w.heap.size:=R.lt;have Zj:K.wb < w.heap.size:=B.wb.lt;have H:Hid (∀W,Below w w W->Calls prog 148 #[.slice (some (g,0)) x.fl.length c,.int .i64 ((i:Int)+1),.slice (some ⟨W.heap.size,0,none⟩) 1 1] (W.alloc (.cells #[tt.fr,tt.li,tt.ep,.bool tt.cl,v] 216)) fun e w'=>Y4 (W.alloc (.cells #[tt.fr,tt.li,tt.ep,.bool tt.cl,v] 216)) g x.fl.length (i+1) (gW x.fl K.cv) (oU tt v) e w'):=fun W hW=>by
    have hb:Below w w (W.alloc (.cells #[tt.fr,tt.li,tt.ep,.bool tt.cl,v] 216)):=t2 hW (aB _ _);have:=Nr g c (i+1) (gW x.fl K.cv) (oU tt v) cur _ (R.kept (hb.block g Zi)) (LH L) om om (by unfold maxLen;omega) W (by have:=hW.size;omega) (dh W _);rw[T]at this;exact_mod_cast this
   have I:Hid (∀w4 g' c' m,Below w w w4\/aC g w w4->pX w4 g' c' ((gW x.fl K.cv).insertIdx (i+1) (oU tt v)) m->c'<=maxLen->(g'=g\/w.heap.size<=g') ->
     w4.cell? (K.wb,7)=some (.slice (some (g,0)) x.fl.length c)/\w4.frozen? (K.wb,7)=false/\∃K',Wd w0 (w4.setCell (K.wb,7) (.slice (some (g',0)) (x.fl.length+1) c')) K' {x with fl:=x.fl.insertIdx (i+1) tt} t/\Mv K K' w (w4.setCell (K.wb,7) (.slice (some (g',0)) (x.fl.length+1) c'))):=fun w4 g' c' m Zk R4 Zl Zg=>by
    have V:K.part 3=[g]:=by simp[WK.part,hg]
    have C4:ay (K.part 3) w w4:=by
     rw[V];rcases Zk with a | a
     ·exact ay.of a
     ·exact ay.one a sM
    have O:kD w4 K x:=B.wb.kept (C4.block _ Zj (by rw[V];simpa using Z));have M:(x.fl.insertIdx (i+1) tt).length=x.fl.length+1:=Ap om _;have Zm:∀(j:Nat) t2 v2,(x.fl.insertIdx (i+1) tt)[j]? = some t2->(K.cv.insertIdx (i+1) v)[j]? = some v2->pU w K t2 v2:=fun j t2 v2 P C=>by
     rw[jg _ _ _ om]at P C;by_cases e1:j < i+1
     ·rw[aj e1]at P C;exact B.fl.ok j t2 v2 P C
     ·rw[ak e1]at P C;by_cases e2:j=i+1
      ·rw[aj e2]at P C;cases P;cases C;exact L
      ·rw[ak e2]at P C;exact B.fl.ok (j - 1) t2 v2 P C
    have hz:gW (x.fl.insertIdx (i+1) tt) (K.cv.insertIdx (i+1) v)=(gW x.fl K.cv).insertIdx (i+1) (oU tt v):=(EU oU _ _ _ _ _ G).symm;have X:w0.heap.size<=g':=by
     rcases Zg with e | e
     ·rw[e];exact U.2
     ·have:=B.bl.size;omega
    have own:=R4.own (base:=w0.heap.size) Zl X;have hl2:((gW x.fl K.cv).insertIdx (i+1) (oU tt v)).length=x.fl.length+1:=by rw[Ap om,T]
    rw[hl2,<- hz]at own;have fin:=B.aen C4 (l':=x.fl.insertIdx (i+1) tt) (cv':=K.cv.insertIdx (i+1) v) (fg':=some (g',c')) (by rw[M,Ap om,G]) om Zm (.inr ⟨g',c',rfl,by
     rcases Zg with e | e
     ·exact .inl (by rw[V,e];simp)
     ·exact .inr e,by rw[M];exact own⟩)
    rw[M]at fin;refine⟨?_,O.fr 7,_,fin.1,fin.2⟩;have:=O.c 7;rw[hg]at this;exact this
   have r0:w.cell? (g,i * 5)=tt.fr:=R.cell (j:=0) hr om;have r1:w.cell? (g,i * 5+1)=tt.li:=R.cell hr om;have r2:w.cell? (g,i * 5+2)=tt.ep:=R.cell hr om;have r3:w.cell? (g,i * 5+3)=some (.bool tt.cl):=R.cell hr om;have r4:w.cell? (g,i * 5+4)=some v:=R.cell hr om;have i0:(0:Int)<=(i:Int):=by omega
   have i1:(i:Int) < (x.fl.length:Int):=by omega
   have i2:i < x.fl.length:=Q;have i3:((x.fl.length:Int)==200)=false:=by rw[dG];omega
   have i4:IntKind.i64.wrap ((i:Int)+1)=(i:Int)+1:=by rw[iI];omega
   obtain⟨p,cap,Zn⟩:∃p cap,v=.slice p tt.cs.length cap:=by obtain⟨⟨p,cap,e,_⟩,_⟩:=L;exact⟨p,cap,e⟩
   subst Zn;clear C Q J hv L hg R hc hr T U Z G Zh E;go_wp2_with fail;have d7:w.drew.cell? (K.wb,7)=some (.slice (some (g,0)) x.fl.length c):=c7;have q0:w.drew.cell? (g,i * 5)=tt.fr:=r0;have q1:w.drew.cell? (g,i * 5+1)=tt.li:=r1;have q2:w.drew.cell? (g,i * 5+2)=tt.ep:=r2;have q3:w.drew.cell? (g,i * 5+3)=some (.bool tt.cl):=r3;have q4:w.drew.cell? (g,i * 5+4)=some (.slice p tt.cs.length cap):=r4;have e7:(w.drew.alloc (.cells #[tt.fr,tt.li,tt.ep,.bool tt.cl,.slice p tt.cs.length cap] 216)).cell? (K.wb,7)=some (.slice (some (g,0)) x.fl.length c):=tk (aB _ _) d7;refine wp_region_any kr ?_;try (change wpAny _ _ _ _ _ _ _ (World.drew _))
   refine iJ (i:=0) (v:=?_) rfl kr kr kr (fun _ _ _ h=>h) (Or.inl ⟨by rfl,?_⟩) ?_;rotate_left
   ·intro A;go_simp;try (with_reducible rfl)
   simp only[sP];refine iJ (i:=1) (v:=?_) rfl kr kr kr (fun _ _ _ h=>h) (Or.inl ⟨by rfl,?_⟩) ?_;rotate_left
   ·intro A;go_simp;try (with_reducible rfl)
   simp only[sP];refine iJ (i:=2) (v:=?_) rfl kr kr kr (fun _ _ _ h=>h) (Or.inl ⟨by rfl,?_⟩) ?_;rotate_left
   ·intro A;go_simp;try (with_reducible rfl)
   simp only[sP];refine iJ (i:=3) (v:=?_) rfl kr kr kr (fun _ _ _ h=>h) (Or.inl ⟨by rfl,?_⟩) ?_;rotate_left
   ·intro A;go_simp;try (with_reducible rfl)
   simp only[sP];refine iJ (i:=5) (v:=?_) rfl kr kr kr (fun _ _ _ h=>h) (Or.inl ⟨by rfl,?_⟩) ?_;rotate_left
   ·intro A;go_simp;try (with_reducible rfl)
   simp only[sP];refine iJ (i:=6) (v:=?_) rfl kr kr kr (fun _ _ _ h=>h) (Or.inl ⟨by rfl,?_⟩) ?_;rotate_left
   ·intro A;go_simp;try (with_reducible rfl)
   simp only[sP];refine iJ (i:=7) (v:=?_) rfl kr kr kr (fun _ _ _ h=>h) (Or.inl ⟨by rfl,?_⟩) ?_;rotate_left
   ·intro A;go_simp;try (with_reducible rfl)
   simp only[sP];refine iJ (i:=8) (v:=?_) rfl kr kr kr (fun _ _ _ h=>h) (Or.inl ⟨by rfl,?_⟩) ?_;rotate_left
   ·intro A;go_simp;try (with_reducible rfl)
   simp only[sP];refine iJ (i:=9) (v:=?_) rfl kr kr kr (fun _ _ _ h=>h) (Or.inl ⟨by rfl,?_⟩) ?_;rotate_left
   ·intro A;go_simp;try (with_reducible rfl)
   simp only[sP];refine iJ (i:=11) (v:=?_) rfl kr kr kr (fun _ _ _ h=>h) (Or.inl ⟨by rfl,?_⟩) ?_;rotate_left
   ·intro A;go_simp;try (with_reducible rfl)
   simp only[sP];refine jZ (rs:=[4,10]) kr sM ?_;refine iY rfl (fun k f=>?_) ?_
   ·go_simp;refine f _ _ ?_;clear f k;try simp only[sP]
    refine jZ (rs:=[10]) kr sM ?_;refine iY rfl (fun k f=>?_) jX;go_simp;refine f _ _ ?_;clear f k;try simp only[sP]
    refine iJ (i:=12) (v:=?_) rfl kr kr kr (fun _ _ _ h=>h) (Or.inl ⟨by rfl,?_⟩) ?_;rotate_left
    ·intro A;go_simp;try (with_reducible rfl)
    simp only[sP];refine jZ (rs:=[13]) kr sM ?_;refine iY rfl (fun k f=>?_) jX;go_simp;refine f _ _ ?_;clear f k;try simp only[sP]
    refine jZ (rs:=[14]) kr sM ?_;refine iY rfl (fun k f=>?_) jX;go_simp;refine f _ _ ?_;clear f k;try simp only[sP]
    refine jZ (rs:=[15]) kr sM ?_;refine iY rfl (fun k f=>?_) jX;go_simp;refine(H w.drew bD).mono ?_;rintro e w4 ⟨g',c',m,rfl,o,q,l,u⟩;go_wp2_with fail;have D:=I.out w4 g' c' m (.inr ((aC.of (t2 bD (aB _ _))).trans l)) o q (by rcases u with e | e;exact .inl e;exact .inr (dL (t2 bD (aB _ _)).size e));obtain⟨f7,z7,K',y,z⟩:=D;have N:Hid (Wd w0 (w4.setCell (K.wb,7) (.slice (some (g',0)) (x.fl.length+1) c')) K' {x with fl:=x.fl.insertIdx (i+1) tt} t/\Mv K K' w (w4.setCell (K.wb,7) (.slice (some (g',0)) (x.fl.length+1) c'))):=⟨y,z⟩;clear y z o q l u;try simp only[sP]
    refine iJ (i:=16) (v:=?_) rfl kr kr kr (fun _ _ _ h=>h) (Or.inl ⟨by rfl,?_⟩) ?_;rotate_left
    ·intro A;go_simp;try (with_reducible rfl)
    simp only[sP];refine iJ (i:=17) (v:=?_) rfl kr kr kr (fun _ _ _ h=>h) (Or.inl ⟨by rfl,?_⟩) ?_;rotate_left
    ·intro A;go_simp;try (with_reducible rfl)
    simp only[sP];refine jZ (rs:=[18]) kr sM ?_;refine iY rfl (fun k f=>?_) jX;go_simp;refine f _ _ ?_;clear f k;try simp only[sP]
    refine JJ kr ?_ _;go_wp2_with fail;go_ret;exact⟨by rw[F.1];rfl,_,by rw[F.2];exact N.1,N.2⟩
   refine iY rfl (fun k f=>?_) jX;go_simp;refine f _ _ ?_;clear f k;try simp only[sP]
   refine iJ (i:=12) (v:=?_) rfl kr kr kr (fun _ _ _ h=>h) (Or.inl ⟨by rfl,?_⟩) ?_;rotate_left
   ·intro A;go_simp;try (with_reducible rfl)
   simp only[sP];refine jZ (rs:=[4,13]) kr sM ?_;refine iY rfl (fun k f=>?_) ?_
   ·go_simp;refine f _ _ ?_;clear f k;try simp only[sP]
    refine jZ (rs:=[13]) kr sM ?_;refine iY rfl (fun k f=>?_) jX;go_simp;refine f _ _ ?_;clear f k;try simp only[sP]
    refine jZ (rs:=[14]) kr sM ?_;refine iY rfl (fun k f=>?_) jX;go_simp;refine f _ _ ?_;clear f k;try simp only[sP]
    refine jZ (rs:=[15]) kr sM ?_;refine iY rfl (fun k f=>?_) jX;go_simp;refine(H w.drew bD).mono ?_;rintro e w4 ⟨g',c',m,rfl,o,q,l,u⟩;go_wp2_with fail;have D:=I.out w4 g' c' m (.inr ((aC.of (t2 bD (aB _ _))).trans l)) o q (by rcases u with e | e;exact .inl e;exact .inr (dL (t2 bD (aB _ _)).size e));obtain⟨f7,z7,K',y,z⟩:=D;have N:Hid (Wd w0 (w4.setCell (K.wb,7) (.slice (some (g',0)) (x.fl.length+1) c')) K' {x with fl:=x.fl.insertIdx (i+1) tt} t/\Mv K K' w (w4.setCell (K.wb,7) (.slice (some (g',0)) (x.fl.length+1) c'))):=⟨y,z⟩;clear y z o q l u;try simp only[sP]
    refine iJ (i:=16) (v:=?_) rfl kr kr kr (fun _ _ _ h=>h) (Or.inl ⟨by rfl,?_⟩) ?_;rotate_left
    ·intro A;go_simp;try (with_reducible rfl)
    simp only[sP];refine iJ (i:=17) (v:=?_) rfl kr kr kr (fun _ _ _ h=>h) (Or.inl ⟨by rfl,?_⟩) ?_;rotate_left
    ·intro A;go_simp;try (with_reducible rfl)
    simp only[sP];refine jZ (rs:=[18]) kr sM ?_;refine iY rfl (fun k f=>?_) jX;go_simp;refine f _ _ ?_;clear f k;try simp only[sP]
    refine JJ kr ?_ _;go_wp2_with fail;go_ret;exact⟨by rw[F.1];rfl,_,by rw[F.2];exact N.1,N.2⟩
   refine iY rfl (fun k f=>?_) jX;go_simp;refine f _ _ ?_;clear f k;try simp only[sP]
   refine jZ (rs:=[4,14]) kr sM ?_;refine iY rfl (fun k f=>?_) ?_
   ·go_simp;refine f _ _ ?_;clear f k;try simp only[sP]
    refine jZ (rs:=[14]) kr sM ?_;refine iY rfl (fun k f=>?_) jX;go_simp;refine f _ _ ?_;clear f k;try simp only[sP]
    refine jZ (rs:=[15]) kr sM ?_;refine iY rfl (fun k f=>?_) jX;go_simp;refine(H w.drew bD).mono ?_;rintro e w4 ⟨g',c',m,rfl,o,q,l,u⟩;go_wp2_with fail;have D:=I.out w4 g' c' m (.inr ((aC.of (t2 bD (aB _ _))).trans l)) o q (by rcases u with e | e;exact .inl e;exact .inr (dL (t2 bD (aB _ _)).size e));obtain⟨f7,z7,K',y,z⟩:=D;have N:Hid (Wd w0 (w4.setCell (K.wb,7) (.slice (some (g',0)) (x.fl.length+1) c')) K' {x with fl:=x.fl.insertIdx (i+1) tt} t/\Mv K K' w (w4.setCell (K.wb,7) (.slice (some (g',0)) (x.fl.length+1) c'))):=⟨y,z⟩;clear y z o q l u;try simp only[sP]
    refine iJ (i:=16) (v:=?_) rfl kr kr kr (fun _ _ _ h=>h) (Or.inl ⟨by rfl,?_⟩) ?_;rotate_left
    ·intro A;go_simp;try (with_reducible rfl)
    simp only[sP];refine iJ (i:=17) (v:=?_) rfl kr kr kr (fun _ _ _ h=>h) (Or.inl ⟨by rfl,?_⟩) ?_;rotate_left
    ·intro A;go_simp;try (with_reducible rfl)
    simp only[sP];refine jZ (rs:=[18]) kr sM ?_;refine iY rfl (fun k f=>?_) jX;go_simp;refine f _ _ ?_;clear f k;try simp only[sP]
    refine JJ kr ?_ _;go_wp2_with fail;go_ret;exact⟨by rw[F.1];rfl,_,by rw[F.2];exact N.1,N.2⟩
   refine iY rfl (fun k f=>?_) jX;go_simp;refine f _ _ ?_;clear f k;try simp only[sP]
   refine jZ (rs:=[4]) kr sM ?_;refine iY rfl (fun k f=>?_) jX;go_simp;refine f _ _ ?_;clear f k;try simp only[sP]
   refine jZ (rs:=[15]) kr sM ?_;refine iY rfl (fun k f=>?_) jX;go_simp;refine(H w.drew bD).mono ?_;rintro e w4 ⟨g',c',m,rfl,o,q,l,u⟩;go_wp2_with fail;have D:=I.out w4 g' c' m (.inr ((aC.of (t2 bD (aB _ _))).trans l)) o q (by rcases u with e | e;exact .inl e;exact .inr (dL (t2 bD (aB _ _)).size e));obtain⟨f7,z7,K',y,z⟩:=D;have N:Hid (Wd w0 (w4.setCell (K.wb,7) (.slice (some (g',0)) (x.fl.length+1) c')) K' {x with fl:=x.fl.insertIdx (i+1) tt} t/\Mv K K' w (w4.setCell (K.wb,7) (.slice (some (g',0)) (x.fl.length+1) c'))):=⟨y,z⟩;clear y z o q l u;try simp only[sP]
   refine iJ (i:=16) (v:=?_) rfl kr kr kr (fun _ _ _ h=>h) (Or.inl ⟨by rfl,?_⟩) ?_;rotate_left
   ·intro A;go_simp;try (with_reducible rfl)
   simp only[sP];refine iJ (i:=17) (v:=?_) rfl kr kr kr (fun _ _ _ h=>h) (Or.inl ⟨by rfl,?_⟩) ?_;rotate_left
   ·intro A;go_simp;try (with_reducible rfl)
   simp only[sP];refine jZ (rs:=[18]) kr sM ?_;refine iY rfl (fun k f=>?_) jX;go_simp;refine f _ _ ?_;clear f k;try simp only[sP]
   refine JJ kr ?_ _;go_wp2_with fail;go_ret;exact⟨by rw[F.1];rfl,_,by rw[F.2];exact N.1,N.2⟩
 ·have F:Hid (x.yj n=4/\x.bT n=x):=by
   have e0:x.pK n=4:=by unfold Wo.pK;rw[ak C]
   have e:x.yj n=4:=by unfold Wo.yj;rw[ak (by rw[e0];decide),e0]
   exact⟨e,by unfold Wo.bT;rw[ak (by rw[e];decide)]⟩
  rw[gQ C];have g3:=Y.c3;go_wp2_with fail;go_ret;exact⟨by rw[F.1];rfl,K,by rw[F.2];exact B,Mv.of bR⟩
def Fin (w0:World) (wb:Nat) (Y:Nat->Option Obj) (B N b M pb:Nat) (s:Nat->Addr) (r:(ByteArray×Nat)×Wo) (t:Nat) (e:Ending) (w':World):Prop:=e=.returned (.tuple #[.string r.1.1,aO s r.1.2])/\Pw w0 w' wb Y B N b M pb r.2 t
structure Bgn (w0 w:World) (wb:Nat) (Y:Nat->Option Obj) (B N b M pb t q:Nat) (s:Nat->Addr) (W:Wo) (k:Nat) (n m:Int) (p:Pk):Prop where
 E:Env w0 s
 h:Pw w0 w wb Y B N b M pb W t
 O:BH q W
 hq:q+cst k m<=250000
 ht:t+cst k m<=190000
 m0:0<=m
 m1:m<=100000
 p6:iR p.pr
theorem aa1 (s:Nat->Addr) (e:Nat):nH s e=aO s e:=by cases e <;> rfl
section
variable {w0 w:World} {Y:Nat->Option Obj} {wb B N b M pb t q x y:Nat} {s:Nat->Addr} {W:Wo} {n m:Int} {p:Pk} {rc:Option Addr} {cl:FuncId} {Q:World->Prop}
theorem QI (E:Env w s) (g:Pk) :
  Calls prog 152 #[g.v] w fun e w'=>e=.returned (.tuple #[.string (pkT g).1,aO s (pkT g).2])/\Below w.heap.size w w':=by
 by_cases h:dB g.pr g.a1 g.p1 g.a2 g.p2 g.fl=0
 ·have e:pkT g=(⟨(iT g.pr g.a1 g.p1 g.a2 g.p2 g.fl).toArray⟩,0):=aj h;rw[e];exact Jo _ _ _ _ _ _ s w E (jI.1 h)
 ·have e:pkT g=(⟨#[]⟩,dB g.pr g.a1 g.p1 g.a2 g.p2 g.fl):=ak h;rw[e];obtain⟨k,a⟩:∃k,dB g.pr g.a1 g.p1 g.a2 g.p2 g.fl=k+1:=⟨dB g.pr g.a1 g.p1 g.a2 g.p2 g.fl - 1,by omega⟩;show Calls _ _ _ _ fun e w'=>e=.returned (.tuple #[.string ⟨#[]⟩,aO s (dB g.pr g.a1 g.p1 g.a2 g.p2 g.fl)])/\_;rw[a,<- aa1];exact MZ k _ _ _ _ _ _ s w (fun u S=>by have:=check_any g.pr g.a1 g.p1 g.a2 g.p2 g.fl s u S.sen;rw[a]at this;exact this) E.s
theorem aeA {a:Nat} {P:Pk} (o:∀(h:Array Value) (u:World),(callFunc cl h).run prog u=.ok (.enter cl h) u) (j:w.cell? (x,0)=some (.func (.func cl) #[.pointer rc] #[]))
  (C:Hid (Calls prog cl #[.pointer rc,p.v] (w.alloc (bU n m p)) fun e w'=>e=.returned (.tuple #[P.v,aO s a])/\Q w')) (E:Hid (∀u,Q u->Env u s/\∀u2,Below u u u2->Q u2)) :
  Calls prog 151 #[kY n m p,.pointer (some (x,0))] w fun e w'=>e=.returned (.tuple #[.string (SV a P).1,aO s (SV a P).2])/\Q w':=by
 have z:x < w.heap.size:=eF j;unfold kY;unfold bU Pk.v at C;go_enter func151,ntmps151;go_wp2_with fail;refine C.mono ?_;rintro e w2 ⟨rfl,hr⟩;have f:Hid (Q w2):=hr;clear hr C
 cases a with
 | zero =>
  simp only[aO];go_wp2_with fail;refine(QI (E _ ((E _ f).2 _ (aB _ _))).1 P).mono ?_;rintro e k ⟨rfl,i⟩;have l:Hid (Q k):=(E _ ((E _ f).2 _ (aB _ _))).2 _ i;clear i;go_wp2_with fail;exact bf (v:=.tuple #[.string (pkT P).1,aO s (pkT P).2]) (by simp[results,results151,go_sem]) rfl ⟨rfl,l⟩
 | succ c =>
  simp only[aO];go_wp2_with fail;exact bf (v:=.tuple #[.string ⟨#[]⟩,aO s (c+1)]) (by simp[results,results151,go_sem,aO]) rfl ⟨by rw[show SV (c+1) P=(⟨#[]⟩,c+1) from ak om],(E _ f).2 _ (aB _ _)⟩
theorem BJ {S:ByteArray} {a c:Array Value} (k:∀(h:Array Value) (u:World),(callFunc cl h).run prog u=.ok (.enter cl h) u) (i:w.cell? (x,0)=some (.func (.func cl) a c)) (f:a=#[.pointer rc]/\c=#[]\/a=#[]/\c=#[.pointer rc])
  (C:Hid (Calls prog cl #[.pointer rc] (w.alloc (bU n m p)) fun e w'=>e=.returned (.string S)/\Q w')) :
  Calls prog 156 #[kY n m p,.pointer (some (x,0))] w fun e w'=>e=.returned (.tuple #[.string S,.nilIface])/\Q w':=by
 have l:x < w.heap.size:=eF i;unfold kY;unfold bU at C;go_enter func156,ntmps156;rcases f with⟨rfl,rfl⟩ | ⟨rfl,rfl⟩;all_goals go_wp2_with fail
 all_goals refine C.mono ?_
 all_goals rintro e w2 ⟨rfl,hr⟩
 all_goals have j:Hid (Q w2):=hr
 all_goals clear hr C
 all_goals go_wp2_with fail
 all_goals exact bf (v:=.tuple #[.string S,.nilIface]) (by simp[results,results156,go_sem]) rfl ⟨rfl,j⟩
theorem adR (h:Pw w0 w wb Y B N b M pb W t) (S:jm w0 s) :
  Calls prog 105 #[.pointer (some ⟨wb,0,none⟩),.int .i64 n] w fun e w'=>(∃(v:Value) (a:TypeId) (c:Value),e=.returned (.tuple #[v,.iface a c])/\.iface a c=aO s (W.jW n)/\W.jW n≠0/\Pw w0 w' wb Y B N b M pb W t)\/(∃g:Addr,e=.returned (.tuple #[.pointer (some g),.nilIface])/\∃y k a c,W.jW n=0/\W.nd n.toNat=some y/\g=⟨k.nd,0,none⟩/\Nd w0 w' k y a c/\Pw w0 w' wb Y B N b M pb W t/\Below w.heap.size w w'):=by
 obtain⟨K,u,G,H,rfl⟩:=id h;refine(Sv S u n).mono ?_;rintro e w2 ⟨⟨i,y,k,rfl,A,j,C,rfl⟩ | ⟨I,D,rfl⟩,f⟩
 ·obtain⟨z,m',E,l,nd,_⟩:=(u.below f).up A j;have F:z=k:=sS (l.symm.trans C);subst F;have o:W.jW (i:Int)=0:=by unfold Wo.jW;rw[aj om,fJ,j];rfl
  exact .inr ⟨_,rfl,y,z,m',E,o,by rw[fJ];exact j,rfl,nd,h.below f,f⟩
 ·exact .inl ⟨_,_,_,rfl,by rw[D];rfl,by omega,h.below f⟩
theorem SX {k T:Nat} {F:No->Int} (cf:∀(D:Array Value) (u:World),(callFunc cl D).run prog u=.ok (.enter cl D) u) (h:Bgn w0 w wb Y B N b M pb t q s W k n m p) (V:w.cell? (x,0)=some (.func (.func 105) #[.pointer (some (wb,0))] #[])) (cy:w.cell? (y,0)=some (.func (.func cl) #[] #[]))
  (O:∀u z (o:Bk) a c,W.nd n.toNat=some z->Nd w0 u o z a c->(Calls prog cl #[.pointer (some (o.nd,0))] u fun e u2=>e=.returned (.int .i64 (F z))/\Below u u u2) /\ -9223372036854775808<=F z/\F z<=9223372036854775807) (G:t<=T) :
  Calls prog 163 #[kY n m p,.pointer (some (x,0)),.pointer (some (y,0))] w (Fin w0 wb Y B N b M pb s (WG W n F,W) T):=by
 have hx:x < w.heap.size:=eF V;have C:=jH (adR (n:=n) (h.h.below (aB w (bU n m p))) h.E.s.m);have X:Hid (Env w0 s):=h.E;have Z:Hid (w.cell? (y,0)=some (.func (.func cl) #[] #[])):=cy;have HO:=jH O;have H:Hid (∀u,Below (w.alloc (bU n m p)).heap.size (w.alloc (bU n m p)) u->Below w w u):=fun u hb=>t2 (aB _ _) hb;clear h cy O;unfold kY;unfold bU at C H;go_enter func163,ntmps163;go_wp2_with fail;refine C.out.mono ?_;rintro e w2 (⟨v,a,c,rfl,i,f,I⟩ | ⟨g,rfl,z,o,a,c,i,f,rfl,J,K,L⟩)
 ·have l:Hid (.iface a c=aO s (W.jW n)/\Pw w0 w2 wb Y B N b M pb W t):=⟨i,I⟩;have j:Hid (WG W n F=(⟨#[]⟩,W.jW n)):=ak f;clear i f I C;go_wp2_with fail;exact bf (v:=.tuple #[.string ⟨#[]⟩,.iface a c]) (by simp[results,results163,go_sem]) rfl ⟨by rw[j.out,l.out.1],by rw[j.out];exact l.out.2.mono G⟩
 ·have cy:=tk (H.out _ L) Z.out;have l:Hid (Pw w0 w2 wb Y B N b M pb W t):=K;have A:=jH (HO.out _ _ _ _ _ f J);have j:Hid (WG W n F=(FT (F z),0)):=by show _=_;unfold WG;rw[aj i,f]
  clear i f J K L C;go_wp2_with fail;refine A.out.1.mono ?_;rintro e P ⟨rfl,R⟩;have S:Hid (Pw w0 P wb Y B N b M pb W t):=l.out.below R;clear R cy;go_wp2_with fail;refine(lK (F z) A.out.2.1 A.out.2.2 P (X.out.p.below S.out.bl)).mono ?_;rintro e w4 ⟨rfl,U⟩;have H4:Hid (Pw w0 w4 wb Y B N b M pb W T):=(S.out.below U).mono G;clear U;go_wp2_with fail;exact bf (v:=.tuple #[.string (FT (F z)),.nilIface]) (by simp[results,results163,go_sem,FT]) rfl ⟨by rw[j.out];rfl,by rw[j.out];exact H4.out⟩
theorem agO (h:Bgn w0 w wb Y B N b M pb t q s W 13 n m p) :
  Calls prog 102 #[kY n m p,.pointer (some ⟨pb,0,none⟩)] w (Fin w0 wb Y B N b M pb s (jh 13 n m p W) (t+cst 13 m)):=by
 have f:=h.h.below (aB w (bU n m p));have c0:=h.h.pc;have c1:pb < w.heap.size:=eF c0;have j:Hid (jm w0 s):=h.E.s.m;have a:Hid (Pw w0 (w.alloc (bU n m p)) wb Y B N b M pb W t):=f;clear h f;unfold kY;unfold bU at a;go_enter func102,ntmps102;go_wp2_with fail;refine(ES j.out a.out n).mono ?_;rintro e w2 ⟨rfl,i⟩;have k:Hid (Pw w0 w2 wb Y B N b M pb W t):=a.out.below i;clear i a;go_wp2_with fail;exact bf (v:=.tuple #[.string (acT W n),.nilIface]) (by simp[results,results102,go_sem]) rfl ⟨rfl,k.out.mono om⟩
end
theorem adS {w0 w:World} {Y:Nat->Option Obj} {wb B N b M pb:Nat} {s:Nat->Addr} {k:Nat} {v:Value} (H:k < 18) (h:Oc (fun q=>B<=q/\q < N) w b wb pb k v) :
  ∃G D,v=.agg #[.string (Hz (kC k)),.func (.func G) #[] D]/\(∀(L:Array Value) (u:World),(callFunc G L).run prog u=.ok (.enter G L) u)/\∀(u:World) (t q:Nat) (W:Wo) (n m:Int) (p:Pk),Below w.heap.size w u->Bgn w0 u wb Y B N b M pb t q s W k n m p->Calls prog G (#[kY n m p]++D) u (Fin w0 wb Y B N b M pb s (jh k n m p W) (t+cst k m)):=by
 match k,H,h with
 | 0,_,⟨x,_,e,c⟩ =>
  refine⟨_,_,e,fun _ _=>kr,fun u t q W n m p f g=>?_⟩;obtain⟨K,A,o,C,rfl⟩:=g.h.below (aB u (bU n m p));have d:=Vf g.E.s.m A o g.O.i m.toNat g.hq g.ht n;rw[Int.toNat_of_nonneg g.m0]at d;exact Eo (fun _ _=>kr) (tk f c) (d.mono fun _ _ ⟨a,_,v1,mv,_⟩=>⟨a,Pw.mk o C v1 mv⟩) (.inl ⟨rfl,rfl⟩)
 | 1,_,⟨x,_,e,c⟩ =>
  refine⟨_,_,e,fun _ _=>kr,fun u t q W n m p f g=>?_⟩;obtain⟨K,A,o,C,rfl⟩:=g.h.below (aB u (bU n m p));exact Eo (fun _ _=>kr) (tk f c) ((ae9 g.E.s.m A n m (by have:=g.m1;omega)).mono fun _ _ ⟨a,v1,mv⟩=>⟨a,(Pw.mk o C v1 mv).mono om⟩) (.inl ⟨rfl,rfl⟩)
 | 2,_,⟨x,_,e,c⟩ =>
  refine⟨_,_,e,fun _ _=>kr,fun u t q W n m p f g=>?_⟩;exact Eo (fun _ _=>kr) (tk f c) (((g.h.below (aB u (bU n m p))).nI g.E.s.m m).mono fun _ _ ⟨a,j⟩=>⟨a,j.mono om⟩) (.inr (.inl ⟨rfl,rfl⟩))
 | 3,_,⟨x,_,e,c⟩ =>
  refine⟨_,_,e,fun _ _=>kr,fun u t q W n m p f g=>?_⟩;obtain⟨K,A,o,C,rfl⟩:=g.h.below (aB u (bU n m p));exact Eo (fun _ _=>kr) (tk f c) ((ac5 g.E.s.m A m).mono fun _ _ ⟨a,_,v1,mv⟩=>⟨a,(Pw.mk o C v1 mv).mono om⟩) (.inr (.inl ⟨rfl,rfl⟩))
 | 4,_,⟨x,_,e,c⟩ =>
  refine⟨_,_,e,fun _ _=>kr,fun u t q W n m p f g=>?_⟩;obtain⟨K,A,o,C,rfl⟩:=g.h.below (aB u (bU n m p));exact Eo (fun _ _=>kr) (tk f c) ((aa0 g.E.s.m A m).mono fun _ _ ⟨a,_,v1,mv⟩=>⟨a,(Pw.mk o C v1 mv).mono om⟩) (.inr (.inl ⟨rfl,rfl⟩))
 | 5,_,⟨x,_,e,c⟩ =>
  refine⟨_,_,e,fun _ _=>kr,fun u t q W n m p f g=>?_⟩;obtain⟨K,A,o,C,rfl⟩:=g.h.below (aB u (bU n m p));exact Eo (fun _ _=>kr) (tk f c) ((ac3 g.E.s.m A n).mono fun _ _ ⟨a,_,v1,mv⟩=>⟨a,(Pw.mk o C v1 mv).mono om⟩) (.inr (.inr ⟨rfl,rfl⟩))
 | 6,_,⟨x,_,e,c⟩ =>
  refine⟨_,_,e,fun _ _=>kr,fun u t q W n m p f g=>?_⟩;obtain⟨K,A,o,C,rfl⟩:=g.h.below (aB u (bU n m p));exact Eo (fun _ _=>kr) (tk f c) ((YV g.E.s.m A n (fun i _ I P=>by
   obtain⟨z,F⟩:=C.1 i I;exact⟨z,F,(g.O.i.dn i I P).GR (by have:=g.hq;omega) I g.O.r⟩)).mono fun _ _ ⟨a,_,v1,mv⟩=>⟨a,(Pw.mk o C v1 mv).mono om⟩) (.inr (.inr ⟨rfl,rfl⟩))
 | 7,_,⟨x,_,e,c⟩ =>
  refine⟨_,_,e,fun _ _=>kr,fun u t q W n m p f g=>?_⟩;obtain⟨K,A,o,C,rfl⟩:=g.h.below (aB u (bU n m p));exact aeA (fun _ _=>kr) (tk f c) ((U4 g.E.s.m A (by have J:t+1<=190000:=g.ht;omega) p g.p6).mono fun _ _ ⟨a,v1,mv⟩=>⟨a,Pw.mk o C v1 mv⟩) fun u j=>⟨g.E.below j.bl,fun _ b=>j.below b⟩
 | 8,_,⟨x,_,e,c⟩ =>
  refine⟨_,_,e,fun _ _=>kr,fun u t q W n m p f g=>?_⟩;obtain⟨K,A,o,C,rfl⟩:=g.h.below (aB u (bU n m p));exact aeA (fun _ _=>kr) (tk f c) ((PW g.E.s.m A (by have J:t+1<=190000:=g.ht;omega) p).mono fun _ _ ⟨a,v1,mv⟩=>⟨a,Pw.mk o C v1 mv⟩) fun u j=>⟨g.E.below j.bl,fun _ b=>j.below b⟩
 | 9,_,⟨x,_,e,c⟩ =>
  refine⟨_,_,e,fun _ _=>kr,fun u t q W n m p f g=>?_⟩;exact BJ (fun _ _=>kr) (tk f c) (.inr ⟨rfl,rfl⟩) ((adt g.E.s.m (g.h.below (aB u (bU n m p))) g.E.p).mono fun _ _ ⟨a,j⟩=>⟨a,j.mono om⟩)
 | 10,_,⟨x,_,e,c⟩ =>
  refine⟨_,_,e,fun _ _=>kr,fun u t q W n m p f g=>?_⟩;have j:=g.h.below (aB u (bU n m p));obtain⟨K,A,o,C,rfl⟩:=id j;exact BJ (fun _ _=>kr) (tk f c) (.inr ⟨rfl,rfl⟩) ((ads A o (g.E.p.below j.bl)).mono fun _ _ ⟨a,b⟩=>⟨a,(j.below b).mono om⟩)
 | 11,_,⟨x,_,e,c⟩ =>
  refine⟨_,_,e,fun _ _=>kr,fun u t q W n m p f g=>?_⟩;have j:=g.h.below (aB u (bU n m p));obtain⟨K,A,o,C,rfl⟩:=id j;have s1:=g.O.s.s;have R:q+1<=250000:=g.hq;exact BJ (fun _ _=>kr) (tk f c) (.inl ⟨rfl,rfl⟩) ((Es A o (g.E.p.below j.bl) (fun F=>⟨s1.1,by omega,by omega⟩)).mono fun _ _ ⟨a,b⟩=>⟨a,(j.below b).mono om⟩)
 | 12,_,⟨x,_,e,c⟩ =>
  refine⟨_,_,e,fun _ _=>kr,fun u t q W n m p f g=>?_⟩;have j:=g.h.below (aB u (bU n m p));exact BJ (fun _ _=>kr) (tk f c) (.inl ⟨rfl,rfl⟩) ((EP j (g.E.p.below j.bl) g.O.s (by have:=g.hq;omega)).mono fun _ _ ⟨a,b⟩=>⟨a,(j.below b).mono om⟩)
 | 13,_,e=>exact⟨_,_,e,fun _ _=>kr,fun u t q W n m p f g=>agO g⟩
 | 14,_,⟨x,y,_,_,e,c,d⟩ =>
  refine⟨_,_,e,fun _ _=>kr,fun u t q W n m p f g=>?_⟩;exact SX (fun _ _=>kr) g (tk f c) (tk f d) (fun _ z _ _ _ _ nd=>⟨aaV nd,by have:=mO z.T 32;omega⟩) om
 | 15,_,⟨x,y,_,_,e,c,d⟩ =>
  refine⟨_,_,e,fun _ _=>kr,fun u t q W n m p f g=>?_⟩;exact SX (fun _ _=>kr) g (tk f c) (tk f d) (fun _ z _ _ _ _ nd=>⟨VW nd,by have:=mO z.mt 32;omega⟩) om
 | 16,_,⟨x,y,_,_,e,c,d⟩ =>
  refine⟨_,_,e,fun _ _=>kr,fun u t q W n m p f g=>?_⟩;exact SX (fun _ _=>kr) g (tk f c) (tk f d) (fun _ _ _ _ _ F nd=>⟨(aaW nd).mono (by rintro _ _ ⟨rfl,rfl⟩;exact⟨rfl,aH _ _⟩),by have J:=(g.O.i.up _ _ F).ep0;have Q:=(g.O.i.up _ _ F).eq;have:=g.hq;omega⟩) om
 | 17,_,⟨x,y,_,_,e,c,d⟩ =>
  refine⟨_,_,e,fun _ _=>kr,fun u t q W n m p f g=>?_⟩;exact SX (fun _ _=>kr) g (tk f c) (tk f d) (fun _ _ _ _ _ F nd=>⟨(adN nd).mono (by rintro _ _ ⟨rfl,rfl⟩;exact⟨rfl,aH _ _⟩),by have J:=(g.O.i.up _ _ F).li;have Q:=(g.O.i.up _ _ F).y.l;have:=g.hq;omega⟩) om
 | _+18,H,_=>exact absurd H om
section
variable {x a:ByteArray} {r:List ByteArray} {w:World}
theorem zL:∀e:List ByteArray,jv e=glue 32 e
 | []=>rfl
 | [a]=>by simp[jv,Lib.join,glue,List.intercalate]
 | a::b::r=>by
  have f:=zL (b::r);unfold jv Lib.join at f ⊢;simp only[glue];rw[<- f];simp[List.intercalate]
theorem QJ (h:words x 32=a::r):(r=[]->x.data.toList=a.data.toList)/\(r≠[]->x.data.toList=a.data.toList++32::jv r):=by
 have f:=yF 32 x.data.toList [];rw[<- iM,h]at f;refine⟨fun e=>?_,fun e=>?_⟩
 ·subst e;exact f.symm
 ·obtain⟨b,i,rfl⟩:=List.exists_cons_of_ne_nil e;rw[zL];exact f.symm
theorem Ns (h:words x 32=a::r):(jv r).length<=x.size/\r.length<=x.size/\∀z ∈ r,z.size<=x.size:=by
 have i:x.data.toList.length=x.size:=xC;refine⟨?_,?_,fun z f=>?_⟩
 ·by_cases e:r=[]
  ·subst e;simp[jv,Lib.join]
  ·have:=dP List.length ((QJ h).2 e);simp at this;omega
 ·have:=yD x 32;rw[h]at this;simp at this;omega
 ·have:=uo 32 x.data.toList [] z (by rw[<- iM,h];exact Oo _ f);simp at this;omega
theorem afF {w':World} {Z:Nat} (h:∀(j:Nat) (y:ByteArray),(a::r)[j]? = some y->w.cell? ⟨Z,j,none⟩=some (.string y)) (f:Below w.heap.size w w') (p:Option Addr) (c:Nat) (i:r.length<=c) (k:r≠[]->p=some ⟨Z,1,none⟩):FN w' (.slice p r.length c) r :=
 ⟨p,c,rfl,i,fun j y e=>⟨Z,1,k (by rintro rfl;simp at e),tk f (by rw[Nat.add_comm];exact h (j+1) y e)⟩⟩
theorem Jq (f:Nat) (B:f < 5) {w:World} {v:Value} {i:List ByteArray} {s:Nat->Addr} (h:FN w v i) (m:(jv i).length<=4000) (o:i.length<=5000) (q:∀a ∈ i,a.size<=4000) (E:oI w s) (g:Int×Int×Pk) (u:g=(gy f i).getD (0,0,aU)) (c:Nat) (y:c=ecO (gy f i)) :
  Calls prog 115 #[.string (Hz f),v] w fun e w'=>e=.returned (.tuple #[kY g.1 g.2.1 g.2.2,aO s c])/\Below w.heap.size w w':=by
 subst u y;by_cases A:f=4
 ·subst A;have:=afz h m o E;have e:gy 4 i=(ER ⟨(jv i).toArray⟩).map fun p=>(0,0,p):=by cases i <;> rfl
  rw[e]
  cases hr:ER ⟨(jv i).toArray⟩ <;> (rw[hr]at this;exact this)
 by_cases k:i.length=(Hz f).size
 ·refine afB f h q E.e.s E.l E.e.p ?_ _ rfl;have j:f=0\/f=1\/f=2\/f=3:=by omega
  rcases j with rfl | rfl | rfl | rfl <;> rcases i with _ | ⟨a,_ | ⟨b,_ | ⟨z,t⟩⟩⟩ <;> simp[Hz,ByteArray.size]at k ⊢
 ·have e:gy f i=none:=by
   have j:f=0\/f=1\/f=2\/f=3:=by omega
   rcases j with rfl | rfl | rfl | rfl <;> rcases i with _ | ⟨a,_ | ⟨b,_ | ⟨z,t⟩⟩⟩ <;> first | rfl | exact absurd rfl k
  rw[e];obtain⟨p,cp,rfl,_,_⟩:=h;exact afA f om k E.e.s
theorem Nu {w2 f u:World} {Z k c cp:Nat} {p:Option Addr} {s:Nat->Addr} {g:Int×Int×Pk} (h:∀(j:Nat) (y:ByteArray),(a::r)[j]? = some y->w2.cell? ⟨Z,j,none⟩=some (.string y)) (l:Below w2.heap.size w2 f) (D:x.size<=3000) (o:words x 32=a::r) (E:oI w2 s) (m:g=(gy (kC k) r).getD (0,0,aU)/\c=ecO (gy (kC k) r)) (i:Below f.heap.size f u) (q:r.length<=cp) (A:r≠[]->p=some ⟨Z,1,none⟩) :
  Calls prog 115 #[.string (Hz (kC k)),.slice p r.length cp] u fun e w'=>e=.returned (.tuple #[kY g.1 g.2.1 g.2.2,aO s c])/\Below f.heap.size f w'/\Below u.heap.size u w':=by
 have B:=Ns o;refine(Jq (kC k) (QE k) (afF h (t2 l i) p cp q A) om om (fun z C=>by have:=B.2.2 z C;omega) (E.below (t2 l i)) g m.1 c m.2).mono ?_;rintro e w' ⟨rfl,b⟩;exact⟨rfl,t2 i b,b⟩
theorem afG {b c o i:Nat} {u v:Value} (h:b < c) (k:w.cell? ⟨b,o,none⟩=some u):(w.setCell ⟨c,i,none⟩ v).cell? ⟨b,o,none⟩=some u:=(lT _ _ _ _ (fun e=>by have:=dP Addr.block e;simp at this;omega)).trans k
theorem aa2 {w0:World} {Q:Nat} {n m:Int} {p:Pk} (h:w.heap[Q]? = some (bU n m p)) (b:Below Q w0 w) (f m':Int) (e:Pk) :
  ∃w5,(((((((w.setCell ⟨Q,0,none⟩ (.int .i64 f)).setCell ⟨Q,1,none⟩ (.int .i64 m')).setCell ⟨Q,2,none⟩ (.int .i64 e.pr)).setCell ⟨Q,3,none⟩ (.int .i64 e.a1)).setCell ⟨Q,4,none⟩ (.int .i64 e.p1)).setCell ⟨Q,5,none⟩ (.int .i64 e.a2)).setCell ⟨Q,6,none⟩ (.int .i64 e.p2)).setCell ⟨Q,7,none⟩ (.int .i64 e.fl)=w5/\w5.heap[Q]? = some (bU f m' e)/\Below Q w0 w5 :=
 ⟨_,rfl,bV _ Q 7 _ _ _ (bV _ Q 6 _ _ _ (bV _ Q 5 _ _ _ (bV _ Q 4 _ _ _ (bV _ Q 3 _ _ _ (bV _ Q 2 _ _ _ (bV _ Q 1 _ _ _ (bV w Q 0 _ _ _ h))))))),FP (FP (FP (FP (FP (FP (FP (FP b _ _) _ _) _ _) _ _) _ _) _ _) _ _) _ _⟩
theorem afH {i:Array MapEntry} (o:KyS i) (k:ByteArray) :
  (∃e ∈ i.toList,e.key=.string k/\∀(w:World) (M f:Nat),w.heap[M]? = some (.map i f)->(Instr.lookup 129 (.map (some M)) (.string k) true).run prog w=.ok (.tuple #[e.val,.bool true]) w) \/
  ((∀e ∈ i.toList,e.key≠.string k)/\∀(w:World) (M f:Nat),w.heap[M]? = some (.map i f)->(Instr.lookup 129 (.map (some M)) (.string k) true).run prog w=.ok (.tuple #[.agg #[.string ⟨#[]⟩,.nilFunc],.bool false]) w):=by
 have l : prog.underlying 9=some .string := Tryz.underlying9;have h:MapKept.IsKey .string (.string k):=trivial;rcases MapKept.findNow_spec h i.toList 0 o.is with⟨h1,h2⟩ | ⟨j,e,h1,h2,h3⟩
 ·exact .inr ⟨h2,fun w M f m=>by simp[Instr.lookup,run_underlying Tryz.underlying129,MapKept.run_getObj_map m,MapKept.run_checkKey l h,MapKept.run_findKey l h1]⟩
 ·exact .inl ⟨e,kW h2,h3,fun w M f m=>by simp[Instr.lookup,run_underlying Tryz.underlying129,MapKept.run_getObj_map m,MapKept.run_checkKey l h,MapKept.run_findKey l h1,Result.andThen]⟩
theorem aa3 {w0:World} {K:WK} {B N b M pb:Nat} (h:zA w0 w K B N b M pb) (a:ByteArray) :
  (∃k v,lW a=some k/\k < 18/\Oc (fun q=>B<=q/\q < N) w b K.wb pb k v/\∀u,Below w.heap.size w u->(Instr.lookup 129 (.map (some M)) (.string a) true).run prog u=.ok (.tuple #[v,.bool true]) u) \/
  (lW a=none/\∀u,Below w.heap.size w u->(Instr.lookup 129 (.map (some M)) (.string a) true).run prog u=.ok (.tuple #[.agg #[.string ⟨#[]⟩,.nilFunc],.bool false]) u):=by
 obtain⟨C,f,i,m,o,p⟩:=h.mp;have l:M < w.heap.size:=gq i;have inj:∀k,k < 18->Value.string (ky k)=.string a->lW a=some k:=fun k s e=>by
  rw[<- Value.string.inj e];exact Jp s
 rcases afH m a with⟨e,he,ek,hr⟩ | ⟨hno,hr⟩
 ·obtain⟨k,k1,k2,k3⟩:=o e he;exact .inl ⟨k,e.val,inj k k1 (k2.symm.trans ek),k1,k3,fun u j=>hr u M f ((j.block M l).trans i)⟩
 ·refine .inr ⟨?_,fun u j=>hr u M f ((j.block M l).trans i)⟩
  cases y:lW a with
  | none=>rfl
  | some k =>
   obtain⟨k1,k2⟩:=mG y;obtain⟨x,z,A⟩:=p k k1;exact absurd (by rw[A,k2]) (hno x z)
theorem aa4 {f:Nat} {k:List ByteArray} {g:Int×Int×Pk} (h:gy f k=some g):0<=g.2.1/\g.2.1<=100000/\iR g.2.2.pr:=by
 have i:∀a,0<=dv a/\dv a<=100000:=fun a=>by
  have:=EF a.data.toList;unfold dv dg;split <;> omega
 have j:iR aU.pr:=by unfold iR;exact⟨by decide,by decide⟩
 unfold gy at h;split at h
 ·cases h;exact⟨yO 0,by show(0:Int)<=100000;omega,j⟩
 ·split at h
  ·cases h;exact⟨yO 0,by show(0:Int)<=100000;omega,j⟩
  ·cases h
 ·split at h
  ·cases h;exact⟨(i _).1,(i _).2,j⟩
  ·cases h
 ·split at h
  ·cases h;exact⟨(i _).1,(i _).2,j⟩
  ·cases h
 ·obtain⟨p,e,rfl⟩:=Option.map_eq_some_iff.1 h;refine⟨yO 0,by show(0:Int)<=100000;omega,?_⟩;unfold ER at e;split at e
  ·split at e
   ·rename_i l
    cases e
    rename_i pr u v y z m _;have o:(pr=1/\m=0)\/pr=2:=(jI.1 l.1).1;show -9223372036854775808<=pr/\pr<=9223372036854775807;omega
   ·cases e
  ·cases e
 ·cases h
end
theorem QK (Z n:Nat):∃p,(n≠0->p=some ((Z,1):Addr))/\∀u:World,(Instr.slice 28 (.slice (some (Z,0)) (n+1) (n+1)) (some (.int .i64 1)) none none).run prog u=.ok (.slice p n n) u:=by
  cases n with
  | zero=>exact⟨some (Z,0),fun h=>absurd rfl h,fun u=>by simp[Instr.slice,run_underlying Tryz.underlying28,go_sem]⟩
  | succ n =>
    refine⟨_,fun _=>rfl,fun u=>?_⟩;simp[Instr.slice,run_underlying Tryz.underlying28,go_sem];intro h;exact absurd h om
theorem aa5 {w0 w:World} {Y:Nat->Option Obj} {wb B N b M pb t q:Nat} {s:Nat->Addr} {W:Wo} (L:oI w0 s) (h:Pw w0 w wb Y B N b M pb W t) (O:BH q W) (x:ByteArray) (hx:x.size<=3000) (hq:q+oL x<=250000) (ht:t+oL x<=190000) :
    Calls prog 58 #[.pointer (some ⟨b,0,none⟩),.string x] w (Fin w0 wb Y B N b M pb s (oK x W) (t+oL x)):=by
  have U:Hid (Pw w0 w wb Y B N b M pb W t/\oI w0 s):=⟨h,L⟩;have HO:=jH O;have Zl:Hid (q+oL x<=250000/\t+oL x<=190000):=⟨hq,ht⟩;have c1:=h.b1;clear h L O hq ht;go_enter func58,ntmps58;go_wp2_with fail;refine jM (qQ x om 32 w (U.out.2.l.below U.out.1.bl)) fun w2 ⟨y,b2⟩=>?_;have J:=tk b2 c1;obtain⟨a,r,z⟩:∃a r,words x 32=a::r:=by
    cases hh:words x 32 with
    | nil=>have:=zD x 32;rw[hh]at this;simp at this
    | cons a r=>exact⟨a,r,rfl⟩
  rw[z]at y ⊢;have d0:=y 0 a rfl;have hz:=eF d0;have Zv:=eF J;have i0:(0:Int) < ((r.length+1:Nat):Int):=by omega
  have A:=U.out.1.below b2;obtain⟨K,wd,pl,yk,rfl⟩:=id A;have Zm:=aa3 pl a;have bd:Below w2.heap.size w2 w2.drew:=qZ bR;have ba:Below w2.heap.size w2 (w2.alloc (.cells #[.string ⟨#[]⟩,.nilFunc] 174)).drew:=qZ (aB _ _);rcases Zm with⟨k,v,hk,hk18,hent,hrun⟩ | ⟨hk,hrun⟩
  · obtain⟨X,i,rfl,Z,Zg⟩:=adS (w0:=w0) (Y:=Y) (s:=s) (M:=M) hk18 hent
    have P:=hrun _ bd;have R:=hrun _ ba;clear hrun hent;have HC:=jH Zg;have Zn:=jH Z;have p:=jH A;have HK:Hid (lW a=some k/\k < 18/\words x 32=a::r):=⟨hk,hk18,z⟩;have Zp:=jH y;clear Zg Z A wd pl yk hk hk18 bd ba z y b2;go_wp2_with fail;go_region;all_goals
      have j:Below w2.heap.size w2 (w2.alloc (.cells #[.string (Hz (kC k)),.func (.func X) #[] i] 174)).drew:=qZ (aB _ _);have G:(w2.alloc (.cells #[.string (Hz (kC k)),.func (.func X) #[] i] 174)).drew.cell? ⟨w2.heap.size,0,none⟩=some (.string (Hz (kC k))):=by simp
      have f1:(w2.alloc (.cells #[.string (Hz (kC k)),.func (.func X) #[] i] 174)).drew.cell? ⟨w2.heap.size,1,none⟩=some (.func (.func X) #[] i):=by simp
      obtain⟨w3,D⟩:∃w3,(w2.alloc (.cells #[.string (Hz (kC k)),.func (.func X) #[] i] 174)).drew=w3:=⟨_,rfl⟩;rw[D]at j G f1 ⊢;have F:=jH j;clear D j P R J d0 c1
    all_goals
      obtain⟨g,hg⟩:∃g,g=(gy (kC k) r).getD (0,0,aU):=⟨_,rfl⟩;obtain⟨c,hc⟩:∃c,c=ecO (gy (kC k) r):=⟨_,rfl⟩;have HG:Hid (g=(gy (kC k) r).getD (0,0,aU)/\c=ecO (gy (kC k) r)):=⟨hg,hc⟩;clear hg hc;have Zh:Hid (oI w2 s/\x.size<=3000):=⟨U.out.2.below p.out.bl,hx⟩
    all_goals
      obtain⟨pp,Zi,Zq⟩:=QK w.heap.size r.length;have C:Hid (∀u,Below w3.heap.size w3 u->Calls prog 115 #[.string (Hz (kC k)),.slice pp r.length r.length] u fun e w'=>e=.returned (.tuple #[kY g.1 g.2.1 g.2.2,aO s c])/\Below w3.heap.size w3 w'/\Below u.heap.size u w'):=fun u hu=>Nu Zp.out F.out Zh.out.2 HK.out.2.2 Zh.out.1 HG.out hu nL (fun e=>Zi fun h=>e (List.length_eq_zero_iff.1 h));have Zj:=eF G;have Zr:w3.drew.cell? ⟨w2.heap.size,0,none⟩=some (.string (Hz (kC k))):=G;have Zt:(w3.alloc (.cells #[.int .i64 0,.int .i64 0,.int .i64 0,.int .i64 0,.int .i64 0,.int .i64 0,.int .i64 0,.int .i64 0] 182)).drew.cell? ⟨w2.heap.size,0,none⟩=some (.string (Hz (kC k))):=tk (aB w3 (bU 0 0 aU)) G;have S:Hid ((w3.alloc (.cells #[.int .i64 0,.int .i64 0,.int .i64 0,.int .i64 0,.int .i64 0,.int .i64 0,.int .i64 0,.int .i64 0] 182)).drew.heap[w3.heap.size]? = some (bU 0 0 aU)):=dh _ _;clear Zi;go_wp2_with fail;go_region_held3 (fun w'=>w'.cell? ⟨w2.heap.size,0,none⟩=some (.string (Hz (kC k))))
        (first | (with_reducible exact hS) | (with_reducible assumption) | (with_reducible exact G) | (with_reducible exact tk (aB _ _) az) | ((repeat (with_reducible refine afG Zj ?_));with_reducible assumption))
        (first
          | (go_at_call 115;with_reducible refine(C.out _ (qZ bR)).mono ?_;rintro e w4 ⟨rfl,H,b5⟩;unfold kY;have s4:=tk H G)
          | (go_at_call 115;with_reducible refine(C.out _ (qZ (aB _ _))).mono ?_;rintro e w4 ⟨rfl,H,b5⟩;unfold kY;have s4:=tk H G;have f:=(b5.block _ (gq S.out)).trans S.out;have r0:=arg0 f 0 om;have g0:=FQ f 0;have r1:=arg0 f 1 om;have g1:=FQ f 1;have r2:=arg0 f 2 om;have g2:=FQ f 2;have r3:=arg0 f 3 om;have g3:=FQ f 3;have r4:=arg0 f 4 om;have g4:=FQ f 4;have r5:=arg0 f 5 om;have g5:=FQ f 5;have r6:=arg0 f 6 om;have g6:=FQ f 6;have r7:=arg0 f 7 om;have g7:=FQ f 7))
    all_goals first
      | (obtain⟨w5,m,V,b6⟩:=aa2 f H g.1 g.2.1 g.2.2
         rw[m];generalize w3.heap.size=Q at V ⊢;clear m b5 H s4 r0 r1 r2 r3 r4 r5 r6 r7 g0 g1 g2 g3 g4 g5 g6 g7 f)
      | (obtain⟨w5,m⟩:∃w5,w4.alloc (.cells #[.int .i64 g.1,.int .i64 g.2.1,.int .i64 g.2.2.pr,.int .i64 g.2.2.a1,.int .i64 g.2.2.p1,.int .i64 g.2.2.a2,.int .i64 g.2.2.p2,.int .i64 g.2.2.fl] 182)=w5:=⟨_,rfl⟩
         have V:w5.heap[w4.heap.size]? = some (bU g.1 g.2.1 g.2.2):=by rw[<- m];exact dh _ _
         have b6:Below w3.heap.size w3 w5:=by rw[<- m];exact H.alloc H.size _
         rw[m];generalize w4.heap.size=Q at V ⊢;clear m b5 H s4)
    all_goals
      clear Zr Zt Zj C Zq S;have H5:Hid (w5.heap[Q]? = some (bU g.1 g.2.1 g.2.2)/\Below w3.heap.size w3 w5):=⟨V,b6⟩;have f2:=tk b6 f1;have q:=Qz V;have q0:=q.c0;have q1:=q.c1;have q2:=q.c2;have q3:=q.c3;have q4:=q.c4;have q5:=q.c5;have q6:=q.c6;have q7:=q.c7;clear V b6 G f1 q
      cases o:gy (kC k) r with
      | none =>
        obtain⟨rfl,rfl⟩:g=(0,0,aU)/\c=1:=by have:=HG.out;rw[o]at this;exact this
        have I:Hid (oK x W=((⟨#[]⟩,1),W)):=by
          show _=_;have:kZ x=none:=by unfold kZ;rw[HK.out.2.2];simp only[HK.out.1,o];rfl
          unfold oK;rw[this]
        have Zu:=jH ((p.out.below F.out).below H5.out.2);clear o;simp only[aO];go_wp2_with fail;exact bf (v:=.tuple #[.string ⟨#[]⟩,aO s 1]) (by simp[results,results58,go_sem,aO]) rfl ⟨by rw[I.out],by rw[I.out];exact Zu.out.mono om⟩
      | some g' =>
        obtain⟨rfl,rfl⟩:g=g'/\c=0:=by have:=HG.out;rw[o]at this;exact this
        have I:Hid (kZ x=some (k,g)):=by
          show _=_;unfold kZ;rw[HK.out.2.2];simp only[HK.out.1,o];rfl
        have Zk:Hid (Bgn w0 w5 K.wb Y B N b M pb t q s W k g.1 g.2.1 g.2.2/\oL x=cst k g.2.1):=by
          have e:oL x=cst k g.2.1:=by unfold oL;rw[I.out]
          have a1:=aa4 o;have a2:=Zl.out;rw[e]at a2;exact⟨⟨U.out.2.e,(p.out.below F.out).below H5.out.2,HO.out,a2.1,a2.2,a1.1,a1.2.1,a1.2.2⟩,e⟩
        clear o;simp only[aO];go_wp2_with fail;rw[Zn.out,Oper.upon_enter];refine jM (HC.out w5 t q W g.1 g.2.1 g.2.2 (t2 F.out H5.out.2) Zk.out.1) fun w6 H6=>?_;obtain⟨rr1,E⟩:∃rr1,(jh k g.1 g.2.1 g.2.2 W).1=rr1:=⟨_,rfl⟩;have T:Hid ((jh k g.1 g.2.1 g.2.2 W).1=rr1/\oK x W=jh k g.1 g.2.1 g.2.2 W):=⟨E,by unfold oK;rw[I.out]⟩;rw[E];clear E;go_wp2_with fail;exact bf (v:=.tuple #[.string rr1.1,aO s rr1.2]) (by simp[results,results58,go_sem]) rfl ⟨by rw[T.out.2,T.out.1],by rw[T.out.2,Zk.out.2];exact H6.out⟩
  · have P:=hrun _ bd
    have R:=hrun _ ba;have I:Hid (oK x W=((⟨#[]⟩,1),W)):=by
      show _=_;have:kZ x=none:=by unfold kZ;rw[z];simp only[hk]
      unfold oK;rw[this]
    have p:=jH A;clear hrun A wd pl yk hk bd ba z y b2;have s0:=(U.out.2.below p.out.bl).e.s.c0;go_wp2_with fail;go_region;all_goals
      have j:Below w2.heap.size w2 (w2.alloc (.cells #[.string ⟨#[]⟩,.nilFunc] 174)).drew:=qZ (aB _ _);have s1:=tk j s0;obtain⟨w3,D⟩:∃w3,(w2.alloc (.cells #[.string ⟨#[]⟩,.nilFunc] 174)).drew=w3:=⟨_,rfl⟩;rw[D]at j s1 ⊢;have H3:=jH (p.out.below j);clear D j P R J d0 c1 s0
    all_goals go_wp2_with fail
    all_goals go_region
    all_goals go_wp2_with fail
    all_goals exact bf (v:=.tuple #[.string ⟨#[]⟩,aO s 1]) (by simp[results,results58,go_sem,aO]) rfl ⟨by rw[I.out],by rw[I.out];exact(H3.out.below (qZ bR)).mono om⟩
theorem zM (W:Wo) (n:Int):W.jW n<=11:=by
 unfold Wo.jW;repeat' split
 all_goals omega
theorem afI (W:Wo) (n:Int):W.Ee n<=11:=by
 have:=zM W n;unfold Wo.Ee;repeat' split
 all_goals first | exact ae8 _ | omega
theorem aa6 (n:Int):∀(k:Nat) (W:Wo),(wt n k W).1<=11
 | 0,_=>by show 0<=11;omega
 | k+1,W=>by
  unfold wt;split
  ·exact aa6 n k _
  ·exact afI W n
theorem Jr (W:Wo) (n:Int):W.pK n<=11:=by
 unfold Wo.pK;split <;> omega
theorem aa7 (W:Wo):W.RX<=11:=by
 have:=zM W W.hn;unfold Wo.RX;split <;> omega
theorem aa8 (e:Nat) (h:e<=11) (p:Pk):(SV e p).2<=11:=by
 have:=YP p;unfold Pk.err at this;unfold SV pkT;repeat' split
 all_goals first | exact jY _ | exact h | (show dB _ _ _ _ _ _<=11;omega)
theorem Js (W:Wo) (n:Int) (g:No->Int):(WG W n g).2<=11:=by
 have:=zM W n;unfold WG;repeat' split
 all_goals first | exact jY _ | exact this
theorem zN (k:Nat) (n m:Int) (p:Pk) (W:Wo):(jh k n m p W).1.2<=11:=by
 match k with
 | 0=>exact aa6 n _ W
 | 1 =>
  show W.Ob n m<=11;have:=zM W n;unfold Wo.Ob;repeat' split
  all_goals first | exact ac1 _ _ | omega
 | 2=>exact Jr W m
 | 3=>exact Jr W m
 | 4 =>
  show W.yj m<=11;have:=Jr W m;unfold Wo.yj;repeat' split
  all_goals omega
 | 5=>exact zM W n
 | 6 =>
  show W.vM n<=11;unfold Wo.vM;repeat' split
  all_goals omega
 | 7 =>
  refine aa8 _ ?_ _;unfold Wo.oh;split
  ·exact ae6 _ _
  ·exact aa7 W
 | 8 =>
  refine aa8 _ ?_ _;unfold Wo.nR;split
  ·exact ae7 _ _
  ·exact aa7 W
 | 9 | 10 | 11 | 12 | 13=>exact jY _
 | 14=>exact Js _ _ _
 | 15=>exact Js _ _ _
 | 16=>exact Js _ _ _
 | _+17=>exact Js _ _ _
theorem afJ (x:ByteArray) (W:Wo):(oK x W).1.2<=11:=by
 unfold oK;split
 ·exact zN _ _ _ _ W
 ·show 1<=11;omega
theorem VY {w:World} {s:Nat->Addr} (S:Af w s) (i:Nat) (h:i < 11) :
  Calls prog 358 #[.pointer (some (s i))] w fun e w'=>e=.returned (.string (etx i))/\w'=w:=by
 have c:=S.tx i h;obtain⟨a,f⟩:∃a,s i=a:=⟨_,rfl⟩;rw[f]at c ⊢;clear S f;go_enter func358,ntmps358;go_wp2_with fail;go_ret;exact⟨rfl,rfl⟩
theorem QM (p:Option Addr) (w:World):(method 524 359 (.pointer p) "Error").run prog w=.ok (358,.pointer p) w:=by kernel_rfl
theorem aa9 (a:Array Value) (u:World):(callFunc 358 a).run prog u=.ok (.enter 358 a) u:=by kernel_rfl
theorem QN {w0 w:World} {Y:Nat->Option Obj} {wb B N b M pb t q:Nat} {s:Nat->Addr} {W:Wo} (L:oI w0 s) (h:Pw w0 w wb Y B N b M pb W t) (O:BH q W) (x:ByteArray) (i:x.size<=3000) (j:q+oL x<=250000) (k:t+oL x<=190000) :
  Calls prog 34 #[.pointer (some ⟨b,0,none⟩),.string x] w fun e w'=>e=.returned (.string (dQ (oK x W).1))/\Pw w0 w' wb Y B N b M pb (oK x W).2 (t+oL x):=by
 have l:Hid (Calls prog 58 #[.pointer (some ⟨b,0,none⟩),.string x] w (Fin w0 wb Y B N b M pb s (oK x W) (t+oL x))):=aa5 L h O x i j k;have z:Hid (oI w0 s):=L;clear L h O i j k;go_enter func34,ntmps34;go_wp2_with fail;refine l.out.mono ?_;rintro e w2 ⟨rfl,m⟩;have a:Hid (Pw w0 w2 wb Y B N b M pb (oK x W).2 (t+oL x)):=m;have f:=afJ x W;obtain⟨r,hr⟩:∃r,(oK x W).1=r:=⟨_,rfl⟩;rw[hr]at f;have o:Hid ((oK x W).1=r):=hr;rw[hr];clear m l hr;obtain⟨C,A⟩:=r
 cases A with
 | zero =>
  simp only[aO];go_wp2_with fail;go_ret;exact⟨by rw[o.out];rfl,a.out⟩
 | succ c =>
  have p:=(z.out.below a.out.bl).e.s;have u:Hid (Calls prog 358 #[.pointer (some (s c))] w2 fun e w'=>e=.returned (.string (etx c))/\w'=w2):=VY p c om;clear p;simp only[aO];go_wp2_with fail;rw[QM];simp only[pR];rw[aa9,Oper.upon_enter];refine u.out.mono ?_;rintro e D ⟨rfl,y⟩;obtain rfl:=y.symm;clear y u;go_wp2_with fail;go_ret;exact⟨by rw[o.out];rfl,a.out⟩
end Go.Proofs.YtnogmjekhjldcaaGreatDoor
