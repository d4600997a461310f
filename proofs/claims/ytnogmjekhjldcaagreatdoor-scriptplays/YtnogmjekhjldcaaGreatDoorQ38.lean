/-
  What the claimed theorem reaches, part Q38.
-/
import Derived.Test.YtnogmjekhjldcaaGreatDoorQ36
namespace Go.Proofs.YtnogmjekhjldcaaGreatDoor
open Go.RowKit Go.Proofs.Tryz
set_option maxRecDepth 100000
set_option maxHeartbeats 8000000
section
variable {w:World}
theorem afP (x:ByteArray) (m:x.size<=60) (z:Option Addr) (c:Nat) (p:Pk) (k:Nat) (h:lW x=some k) (a:kC k=0) :
  Calls prog 7 #[sG x (.slice z 0 c) p] w (LnA w x [] p):=by
 have l:Hid (∀u:World,Calls prog 16 #[.string x] u fun e w'=>e=.returned (.tuple #[.string ⟨#[]⟩,.bool true])/\w'=u):=fun u=>by
  have:=kP x u;unfold fmO at this;rw[h]at this;simp only[a]at this;exact this
 have f:Hid (LnX x [] p x/\x.size<=300):=⟨⟨k,h,.inr ⟨by rw[a];trivial,by apply jB;simp[Ny]⟩⟩,by omega⟩;clear h a;have i:Hid (Below w.heap.size w (w.alloc (kF x (.slice z 0 c) p))):=aB _ _;unfold kF at i;unfold sG;go_enter func7,ntmps7;go_wp2_with fail;refine(l.out _).mono ?_;rintro e o ⟨rfl,j⟩;obtain rfl:=j.symm;clear j;go_wp2_with fail;refine lq 1 ?_;rw[bM];go_wp2_with fail;go_ret2;exact⟨⟨_,_,rfl,f.out.2,fun _=>f.out.1⟩,i.out⟩
theorem afQ (x:ByteArray) (G:x.size<=60) (a:Int) (Z o c:Nat) (p:Pk) (k:Nat) (h:lW x=some k) (m:kC k=1) (H:iR a) (q:w.cell? ⟨Z,o,none⟩=some (.int .i64 a)) :
  Calls prog 7 #[sG x (.slice (some ⟨Z,o,none⟩) 1 c) p] w (LnA w x [a] p):=by
 have D:Hid (∀u:World,Calls prog 16 #[.string x] u fun e w'=>e=.returned (.tuple #[.string ⟨#[115]⟩,.bool true])/\w'=u):=fun u=>by
  have:=kP x u;unfold fmO at this;rw[h]at this;simp only[m]at this;exact this
 have E:Hid (lW x=some k/\kC k=1):=⟨h,m⟩;clear h m;have s:(w.alloc (kF x (.slice (some ⟨Z,o,none⟩) 1 c) p)).heap[w.heap.size]? = some (kF x (.slice (some ⟨Z,o,none⟩) 1 c) p):=dh _ _;have i:Hid (Below w.heap.size w (w.alloc (kF x (.slice (some ⟨Z,o,none⟩) 1 c) p))):=aB _ _;have y:=tk i.out q;unfold iR at H;have I:Z < w.heap.size:=eF q;have z:Hid ((w.alloc (kF x (.slice (some ⟨Z,o,none⟩) 1 c) p)).cell? ⟨w.heap.size,1,none⟩=some (.slice (some ⟨Z,o,none⟩) 1 c)):=by
  unfold kF at s ⊢;exact(aP _ _ _ _ _ _ s).trans rfl
 clear s;have N:(⟨#[32]⟩:ByteArray).size=1:=rfl;unfold kF at i z y;unfold sG;clear q;go_enter func7,ntmps7;go_wp2_with fail;refine(D.out _).mono ?_;rintro e O ⟨rfl,F⟩;obtain rfl:=F.symm;clear F D;go_wp2_with fail;refine lq 2 ?_;rw[bM];by_cases J:a < 0
 ·go_wp2_with fail;go_ret2;exact⟨⟨⟨#[]⟩,false,rfl,by simp[ByteArray.size],fun h=>by cases h⟩,i.out⟩
 have f:0<=a:=by omega
 by_cases K:1 < a
 ·go_wp2_with fail;go_ret2;exact⟨⟨⟨#[]⟩,false,rfl,by simp[ByteArray.size],fun h=>by cases h⟩,i.out⟩
 have A:a<=1:=by omega
 have hl0:=eu f om;go_wp2_with fail;refine(jP a f om _).mono ?_;rintro e w2 ⟨rfl,B⟩;have j:Hid (Below w.heap.size w w2):=t2 i.out B;have c0:=tk B z.out;have z:Hid (w2.cell? ⟨w.heap.size,1,none⟩=some (.slice (some ⟨Z,o,none⟩) 1 c)):=c0;have L:Z < w2.heap.size:=ji I j.out.size;clear B;generalize l:Lib.itoa a=L0 at *;have C:Hid (Lib.itoa a=L0):=l;clear l;go_wp2_with fail;rw[bM];go_wp2_with fail;go_ret2;refine⟨⟨_,_,rfl,?_,fun _=>⟨k,E.out.1,.inr ⟨?_,?_⟩⟩⟩,j.out⟩
 ·have M:x.data.size<=60:=G;simp only[ByteArray.size,WM,Oq,Fa,vX,xG];omega
 ·rw[E.out.2];exact⟨f,A⟩
 ·apply jB;simp[ByteArray.data_append,Ny,C.out]
theorem afR (x:ByteArray) (G:x.size<=60) (a:Int) (Z o c:Nat) (p:Pk) (k:Nat) (h:lW x=some k) (m:kC k=2) (H:iR a) (q:w.cell? ⟨Z,o,none⟩=some (.int .i64 a)) :
  Calls prog 7 #[sG x (.slice (some ⟨Z,o,none⟩) 1 c) p] w (LnA w x [a] p):=by
 have D:Hid (∀u:World,Calls prog 16 #[.string x] u fun e w'=>e=.returned (.tuple #[.string ⟨#[110]⟩,.bool true])/\w'=u):=fun u=>by
  have:=kP x u;unfold fmO at this;rw[h]at this;simp only[m]at this;exact this
 have E:Hid (lW x=some k/\kC k=2):=⟨h,m⟩;clear h m;have s:(w.alloc (kF x (.slice (some ⟨Z,o,none⟩) 1 c) p)).heap[w.heap.size]? = some (kF x (.slice (some ⟨Z,o,none⟩) 1 c) p):=dh _ _;have i:Hid (Below w.heap.size w (w.alloc (kF x (.slice (some ⟨Z,o,none⟩) 1 c) p))):=aB _ _;have y:=tk i.out q;unfold iR at H;have I:Z < w.heap.size:=eF q;have z:Hid ((w.alloc (kF x (.slice (some ⟨Z,o,none⟩) 1 c) p)).cell? ⟨w.heap.size,1,none⟩=some (.slice (some ⟨Z,o,none⟩) 1 c)):=by
  unfold kF at s ⊢;exact(aP _ _ _ _ _ _ s).trans rfl
 clear s;have N:(⟨#[32]⟩:ByteArray).size=1:=rfl;unfold kF at i z y;unfold sG;clear q;go_enter func7,ntmps7;go_wp2_with fail;refine(D.out _).mono ?_;rintro e O ⟨rfl,F⟩;obtain rfl:=F.symm;clear F D;go_wp2_with fail;refine lq 2 ?_;rw[bM];by_cases J:a < 0
 ·go_wp2_with fail;go_ret2;exact⟨⟨⟨#[]⟩,false,rfl,by simp[ByteArray.size],fun h=>by cases h⟩,i.out⟩
 have f:0<=a:=by omega
 by_cases K:99999 < a
 ·go_wp2_with fail;go_ret2;exact⟨⟨⟨#[]⟩,false,rfl,by simp[ByteArray.size],fun h=>by cases h⟩,i.out⟩
 have A:a<=99999:=by omega
 have hl0:=eu f om;go_wp2_with fail;refine(jP a f om _).mono ?_;rintro e w2 ⟨rfl,B⟩;have j:Hid (Below w.heap.size w w2):=t2 i.out B;have c0:=tk B z.out;have z:Hid (w2.cell? ⟨w.heap.size,1,none⟩=some (.slice (some ⟨Z,o,none⟩) 1 c)):=c0;have L:Z < w2.heap.size:=ji I j.out.size;clear B;generalize l:Lib.itoa a=L0 at *;have C:Hid (Lib.itoa a=L0):=l;clear l;go_wp2_with fail;rw[bM];go_wp2_with fail;go_ret2;refine⟨⟨_,_,rfl,?_,fun _=>⟨k,E.out.1,.inr ⟨?_,?_⟩⟩⟩,j.out⟩
 ·have M:x.data.size<=60:=G;simp only[ByteArray.size,WM,Oq,Fa,vX,xG];omega
 ·rw[E.out.2];exact⟨f,A⟩
 ·apply jB;simp[ByteArray.data_append,Ny,C.out]
theorem ad1 (x:ByteArray) (R:x.size<=60) (a b:Int) (Z o c:Nat) (p:Pk) (k:Nat) (h:lW x=some k) (B:kC k=3) (S:iR a) (C:w.cell? ⟨Z,o,none⟩=some (.int .i64 a)) (T:iR b) (L:w.cell? ⟨Z,o+1,none⟩=some (.int .i64 b)) :
  Calls prog 7 #[sG x (.slice (some ⟨Z,o,none⟩) 2 c) p] w (LnA w x [a,b] p):=by
 have M:Hid (∀u:World,Calls prog 16 #[.string x] u fun e w'=>e=.returned (.tuple #[.string ⟨#[115,110]⟩,.bool true])/\w'=u):=fun u=>by
  have:=kP x u;unfold fmO at this;rw[h]at this;simp only[B]at this;exact this
 have N:Hid (lW x=some k/\kC k=3):=⟨h,B⟩;clear h B;have D:(w.alloc (kF x (.slice (some ⟨Z,o,none⟩) 2 c) p)).heap[w.heap.size]? = some (kF x (.slice (some ⟨Z,o,none⟩) 2 c) p):=dh _ _;have l:Hid (Below w.heap.size w (w.alloc (kF x (.slice (some ⟨Z,o,none⟩) 2 c) p))):=aB _ _;have E:=tk l.out C;unfold iR at S;have m:=tk l.out L;unfold iR at T;have O:Z < w.heap.size:=eF C;have q:Hid ((w.alloc (kF x (.slice (some ⟨Z,o,none⟩) 2 c) p)).cell? ⟨w.heap.size,1,none⟩=some (.slice (some ⟨Z,o,none⟩) 2 c)):=by
  unfold kF at D ⊢;exact(aP _ _ _ _ _ _ D).trans rfl
 clear D;have z1:(⟨#[32]⟩:ByteArray).size=1:=rfl;unfold kF at l q E m;unfold sG;clear C L;go_enter func7,ntmps7;go_wp2_with fail;refine(M.out _).mono ?_;rintro e w1 ⟨rfl,P⟩;obtain rfl:=P.symm;clear P M;go_wp2_with fail;refine lq 3 ?_;rw[bM];by_cases U:a < 0
 ·go_wp2_with fail;go_ret2;exact⟨⟨⟨#[]⟩,false,rfl,by simp[ByteArray.size],fun h=>by cases h⟩,l.out⟩
 have i:0<=a:=by omega
 by_cases V:1 < a
 ·go_wp2_with fail;go_ret2;exact⟨⟨⟨#[]⟩,false,rfl,by simp[ByteArray.size],fun h=>by cases h⟩,l.out⟩
 have F:a<=1:=by omega
 have hl0:=eu i om;go_wp2_with fail;refine(jP a i om _).mono ?_;rintro e w2 ⟨rfl,A⟩;have f:Hid (Below w.heap.size w w2):=t2 l.out A;have c0:=tk A q.out;have q:Hid (w2.cell? ⟨w.heap.size,1,none⟩=some (.slice (some ⟨Z,o,none⟩) 2 c)):=c0;have Q:=tk A m;have W:Z < w2.heap.size:=ji O f.out.size;clear A;generalize s:Lib.itoa a=L0 at *;have G:Hid (Lib.itoa a=L0):=s;clear s;go_wp2_with fail;rw[bM];by_cases X:b < 0
 ·go_wp2_with fail;go_ret2;exact⟨⟨⟨#[]⟩,false,rfl,by simp[ByteArray.size],fun h=>by cases h⟩,f.out⟩
 have j:0<=b:=by omega
 by_cases Y:99999 < b
 ·go_wp2_with fail;go_ret2;exact⟨⟨⟨#[]⟩,false,rfl,by simp[ByteArray.size],fun h=>by cases h⟩,f.out⟩
 have H:b<=99999:=by omega
 have hl1:=eu j om;go_wp2_with fail;refine(jP b j om _).mono ?_;rintro e I ⟨rfl,J⟩;have y:Hid (Below w.heap.size w I):=t2 f.out J;have c1:=tk J q.out;have q:Hid (I.cell? ⟨w.heap.size,1,none⟩=some (.slice (some ⟨Z,o,none⟩) 2 c)):=c1;have Zg:Z < I.heap.size:=ji O y.out.size;clear J;generalize z:Lib.itoa b=L1 at *;have K:Hid (Lib.itoa b=L1):=z;clear z;go_wp2_with fail;rw[bM];go_wp2_with fail;go_ret2;refine⟨⟨_,_,rfl,?_,fun _=>⟨k,N.out.1,.inr ⟨?_,?_⟩⟩⟩,y.out⟩
 ·have Zh:x.data.size<=60:=R;simp only[ByteArray.size,WM,Oq,Fa,vX,xG];omega
 ·rw[N.out.2];exact⟨⟨i,F⟩,j,H⟩
 ·apply jB;simp[ByteArray.data_append,Ny,G.out,K.out]
theorem abg (x:ByteArray) (l:x.size<=60) (f:List Int) (z:Option Addr) (c:Nat) (p:Pk) (u:P6 p) (j:NsI w z f) :
  Calls prog 7 #[sG x (.slice z f.length c) p] w (LnA w x f p):=by
 cases h:lW x with
 | none=>exact V7 x f z c p h
 | some k =>
  have E:=QE k;by_cases y:kC k=4
  ·exact abb x l f z c p u k h y
  by_cases s:f.length≠(fmS (kC k)).size
  ·exact abd x f z c p k h om s
  have e:f.length=(fmS (kC k)).size:=Classical.not_not.1 s;have A:kC k=0\/kC k=1\/kC k=2\/kC k=3:=by omega
  rcases A with i | i | i | i
  ·rw[i]at e;match f,e with
   | [],_=>exact afP x l z c p k h i
  ·rw[i]at e;match f,e,j with
   | [a],_,j =>
    obtain⟨m,Z,o,rfl,q⟩:=j 0 a rfl;exact afQ x l a Z o c p k h i m q
  ·rw[i]at e;match f,e,j with
   | [a],_,j =>
    obtain⟨m,Z,o,rfl,q⟩:=j 0 a rfl;exact afR x l a Z o c p k h i m q
  ·rw[i]at e;match f,e,j with
   | [a,b],_,j =>
    obtain⟨m,Z,o,rfl,q⟩:=j 0 a rfl;obtain⟨B,F,G,C,D⟩:=j 1 b rfl
    cases C
    exact ad1 x l a b Z o c p k h i m q B D
end
end Go.Proofs.YtnogmjekhjldcaaGreatDoor
