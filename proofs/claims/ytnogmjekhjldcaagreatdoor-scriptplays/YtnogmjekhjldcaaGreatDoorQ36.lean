/-
  What the claimed theorem reaches, part Q36.
-/
import Derived.Test.YtnogmjekhjldcaaGreatDoorQ35
namespace Go.Proofs.YtnogmjekhjldcaaGreatDoor
open Go.RowKit Go.Proofs.Tryz
set_option maxRecDepth 100000
set_option maxHeartbeats 8000000
theorem adU {l m:List UInt8} (h:l=m):Ending.returned (.string ⟨l.toArray⟩)=Ending.returned (.string ⟨m.toArray⟩):=by rw[h]
theorem Jt (a:Int) (f:0<=a) (i:a<=15) (w:World) :
  Calls prog 40 #[.int .i64 a] w fun e w'=>e=.returned (.string ⟨(fText a).toArray⟩)/\Below w.heap.size w w':=by
 have h:a=0\/a=1\/a=2\/a=3\/a=4\/a=5\/a=6\/a=7\/a=8\/a=9\/a=10\/a=11\/a=12\/a=13\/a=14\/a=15:=by omega
 have j:=@ByteArray.mk_append_mk;clear f i;rcases h with rfl | rfl | rfl | rfl | rfl | rfl | rfl | rfl | rfl | rfl | rfl | rfl | rfl | rfl | rfl | rfl;all_goals
  go_enter func40,ntmps40;go_wp2_with fail;refine lq 5 ?_;rw[bM];go_wp2_with fail;rw[bM];go_wp2_with fail;rw[bM];go_wp2_with fail;rw[bM];go_wp2_with fail;rw[bM];go_wp2_with fail;go_ret;exact⟨adU (by decide +kernel),(aH _ _).alloc nL _⟩
theorem FU (n:Int) (k : -9223372036854775808<=n) (l:n<=9223372036854775807) (w:World) :
  Calls prog 40 #[.int .i64 n] w fun e w'=>(∃y:ByteArray,e=.returned (.string y)/\y.size<=16)/\Below w.heap.size w w':=by
 go_enter func40,ntmps40;go_wp2_with fail;have m:(w.alloc (.cells #[.string ⟨#[115,121,110]⟩,.string ⟨#[97,99,107]⟩,.string ⟨#[102,105,110]⟩,.string ⟨#[114,115,116]⟩] 9)).cell? ⟨w.heap.size,0,none⟩=some (.string ⟨#[115,121,110]⟩):=by simp
 have o:(w.alloc (.cells #[.string ⟨#[115,121,110]⟩,.string ⟨#[97,99,107]⟩,.string ⟨#[102,105,110]⟩,.string ⟨#[114,115,116]⟩] 9)).cell? ⟨w.heap.size,1,none⟩=some (.string ⟨#[97,99,107]⟩):=by simp
 have p:(w.alloc (.cells #[.string ⟨#[115,121,110]⟩,.string ⟨#[97,99,107]⟩,.string ⟨#[102,105,110]⟩,.string ⟨#[114,115,116]⟩] 9)).cell? ⟨w.heap.size,2,none⟩=some (.string ⟨#[102,105,110]⟩):=by simp
 have q:(w.alloc (.cells #[.string ⟨#[115,121,110]⟩,.string ⟨#[97,99,107]⟩,.string ⟨#[102,105,110]⟩,.string ⟨#[114,115,116]⟩] 9)).cell? ⟨w.heap.size,3,none⟩=some (.string ⟨#[114,115,116]⟩):=by simp
 have h:Hid (Below w.heap.size w (w.alloc (.cells #[.string ⟨#[115,121,110]⟩,.string ⟨#[97,99,107]⟩,.string ⟨#[102,105,110]⟩,.string ⟨#[114,115,116]⟩] 9))):=(aH _ _).alloc nL _;generalize w.alloc (.cells #[.string ⟨#[115,121,110]⟩,.string ⟨#[97,99,107]⟩,.string ⟨#[102,105,110]⟩,.string ⟨#[114,115,116]⟩] 9)=w1 at *;go_loopw [4,5,6] (fun v4 v5 a wr=>∃(i:Nat) (y:ByteArray),i<=4/\a=.int .i64 i/\v5=.int .i64 ((2 ^ i:Nat):Int)/\v4=.string y/\y.size<=4 * i/\wr=w1) (fun _ _ a _=>4 - (intOf a).toNat)
 case atStart=>exact⟨0,⟨#[]⟩,by omega,rfl,rfl,rfl,by simp[ByteArray.size],rfl⟩
 case round =>
  obtain⟨i,y,j,rfl,rfl,rfl,s,rfl⟩:=hrel;have f:i=0\/i=1\/i=2\/i=3\/i=4:=by omega
  clear j;have u:(⟨#[115,121,110]⟩:ByteArray).size=3:=rfl;have x:(⟨#[97,99,107]⟩:ByteArray).size=3:=rfl;have z:(⟨#[102,105,110]⟩:ByteArray).size=3:=rfl;have A:(⟨#[114,115,116]⟩:ByteArray).size=3:=rfl;have B:(⟨#[43]⟩:ByteArray).size=1:=rfl;have C:(⟨#[45]⟩:ByteArray).size=1:=rfl;rcases f with rfl | rfl | rfl | rfl | rfl
  ·go_wp2_with fail;all_goals exact⟨⟨1,_,by omega,rfl,rfl,rfl,by(try simp only[ab1]);omega,trivial⟩,by simp[intOf]⟩
  ·go_wp2_with fail;all_goals exact⟨⟨2,_,by omega,rfl,rfl,rfl,by(try simp only[ab1]);omega,trivial⟩,by simp[intOf]⟩
  ·go_wp2_with fail;all_goals exact⟨⟨3,_,by omega,rfl,rfl,rfl,by(try simp only[ab1]);omega,trivial⟩,by simp[intOf]⟩
  ·go_wp2_with fail;all_goals exact⟨⟨4,_,by omega,rfl,rfl,rfl,by(try simp only[ab1]);omega,trivial⟩,by simp[intOf]⟩
  ·go_wp2_with fail;all_goals go_ret
   all_goals exact⟨⟨_,rfl,by omega⟩,h.out⟩
section
variable {w w1:World} {b:Nat} {v0 v1 v2 v3 v4 v5:Value}
theorem agP {W:World} 
  (h:W.cell? ⟨b,0,none⟩=some v0/\W.cell? ⟨b,1,none⟩=some v1/\W.cell? ⟨b,2,none⟩=some v2/\W.cell? ⟨b,3,none⟩=some v3/\W.cell? ⟨b,4,none⟩=some v4/\W.cell? ⟨b,5,none⟩=some v5/\Below w.heap.size w W) (a:Below W.heap.size W w1) :
  w1.cell? ⟨b,0,none⟩=some v0/\w1.cell? ⟨b,1,none⟩=some v1/\w1.cell? ⟨b,2,none⟩=some v2/\w1.cell? ⟨b,3,none⟩=some v3/\w1.cell? ⟨b,4,none⟩=some v4/\w1.cell? ⟨b,5,none⟩=some v5/\Below w.heap.size w w1:=by
 obtain⟨e,f,i,j,k,l,m⟩:=h;exact⟨aS a e,aS a f,aS a i,aS a j,aS a k,aS a l,aZ m a⟩
theorem V3 (w:World) (v0 v1 v2 v3 v4 v5:Value) (t:TypeId) :
  (w.alloc (.cells #[v0,v1,v2,v3,v4,v5] t)).drew.cell? ⟨w.heap.size,0,none⟩=some v0/\(w.alloc (.cells #[v0,v1,v2,v3,v4,v5] t)).drew.cell? ⟨w.heap.size,1,none⟩=some v1/\(w.alloc (.cells #[v0,v1,v2,v3,v4,v5] t)).drew.cell? ⟨w.heap.size,2,none⟩=some v2/\(w.alloc (.cells #[v0,v1,v2,v3,v4,v5] t)).drew.cell? ⟨w.heap.size,3,none⟩=some v3/\(w.alloc (.cells #[v0,v1,v2,v3,v4,v5] t)).drew.cell? ⟨w.heap.size,4,none⟩=some v4/\(w.alloc (.cells #[v0,v1,v2,v3,v4,v5] t)).drew.cell? ⟨w.heap.size,5,none⟩=some v5/\Below w.heap.size w (w.alloc (.cells #[v0,v1,v2,v3,v4,v5] t)).drew:=by
 obtain⟨c0,c1,c2,c3,c4,c5⟩:=IU (w:=w) (v0:=v0) (v1:=v1) (v2:=v2) (v3:=v3) (v4:=v4) (v5:=v5) (t:=t) bD;exact⟨c0,c1,c2,c3,c4,c5,((aH _ _).alloc nL _).drew⟩
theorem Nv 
  (h:w1.cell? ⟨b,0,none⟩=some v0/\w1.cell? ⟨b,1,none⟩=some v1/\w1.cell? ⟨b,2,none⟩=some v2/\w1.cell? ⟨b,3,none⟩=some v3/\w1.cell? ⟨b,4,none⟩=some v4/\w1.cell? ⟨b,5,none⟩=some v5/\Below w.heap.size w w1):Below w.heap.size w w1:=h.2.2.2.2.2.2
theorem Nw 
  (h:w1.cell? ⟨b,0,none⟩=some v0/\w1.cell? ⟨b,1,none⟩=some v1/\w1.cell? ⟨b,2,none⟩=some v2/\w1.cell? ⟨b,3,none⟩=some v3/\w1.cell? ⟨b,4,none⟩=some v4/\w1.cell? ⟨b,5,none⟩=some v5/\Below w.heap.size w w1):w1.cell? ⟨b,0,none⟩=some v0/\w1.cell? ⟨b,5,none⟩=some v5:=⟨h.1,h.2.2.2.2.2.1⟩
def PtV (a e f h i j:Int) (y:ByteArray):Prop:=y.size<=140/\(sK a e f h i j->y=⟨(iT a e f h i j).toArray⟩)
theorem H9 (l a i j k f:Int) (m:iR a) (o:iR i) (p:iR j) (q:iR k) (D:iR f) (w:World) :
  Calls prog 17 #[pkt l a i j k f] w fun e w'=>(∃y,e=.returned (.string y)/\PtV l a i j k f y)/\Below w.heap.size w w':=by
 unfold iR at m o p q D;have V:=qR m.1 m.2;have X:=qR o.1 o.2;have Y:=qR p.1 p.2;have Z:=qR q.1 q.2;have I:Hid (-9223372036854775808<=f/\f<=9223372036854775807):=D;have HI:Hid ((-9223372036854775808<=a/\a<=9223372036854775807)/\(-9223372036854775808<=i/\i<=9223372036854775807)/\(-9223372036854775808<=j/\j<=9223372036854775807)/\(-9223372036854775808<=k/\k<=9223372036854775807)):=⟨m,o,p,q⟩;have J:Hid (∀W,Calls prog 19 #[.int .i64 a] W fun e w'=>e=.returned (.string ⟨(iP a).toArray⟩)/\Below W.heap.size W w'):=fun W=>kV a m.1 m.2 W;have K:Hid (∀W,Calls prog 19 #[.int .i64 i] W fun e w'=>e=.returned (.string ⟨(iP i).toArray⟩)/\Below W.heap.size W w'):=fun W=>kV i o.1 o.2 W;have L:Hid (∀W,Calls prog 19 #[.int .i64 j] W fun e w'=>e=.returned (.string ⟨(iP j).toArray⟩)/\Below W.heap.size W w'):=fun W=>kV j p.1 p.2 W;have M:Hid (∀W,Calls prog 19 #[.int .i64 k] W fun e w'=>e=.returned (.string ⟨(iP k).toArray⟩)/\Below W.heap.size W w'):=fun W=>kV k q.1 q.2 W;clear m o p q D;have n1:¬9223372036854775807 < (iP a).length+1:=by omega
 have n2:¬9223372036854775807 < (iP a).length+1+(iP i).length:=by omega
 have n3:¬9223372036854775807 < (iP a).length+1+(iP i).length+1:=by omega
 have n4:¬9223372036854775807 < (iP a).length+1+(iP i).length+1+(iP j).length:=by omega
 have n5:¬9223372036854775807 < (iP a).length+1+(iP i).length+1+(iP j).length+1:=by omega
 have n6:¬9223372036854775807 < (iP a).length+1+(iP i).length+1+(iP j).length+1+(iP k).length:=by omega
 go_enter func17,ntmps17;go_wp2_with fail;go_region_held3 (fun w'=>w'.cell? ⟨w.heap.size,0,none⟩=some (.int .i64 l)/\w'.cell? ⟨w.heap.size,1,none⟩=some (.int .i64 a)/\w'.cell? ⟨w.heap.size,2,none⟩=some (.int .i64 i)/\w'.cell? ⟨w.heap.size,3,none⟩=some (.int .i64 j)/\w'.cell? ⟨w.heap.size,4,none⟩=some (.int .i64 k)/\w'.cell? ⟨w.heap.size,5,none⟩=some (.int .i64 f)/\Below w.heap.size w w')
  (first | assumption | exact V3 _ _ _ _ _ _ _ _ | exact agP az az)
  (first | (go_at_call 19;with_reducible refine(J.out _).mono ?_;rintro e w1 ⟨rfl,s⟩) | (go_at_call 19;with_reducible refine(K.out _).mono ?_;rintro e w1 ⟨rfl,s⟩) | (go_at_call 19;with_reducible refine(L.out _).mono ?_;rintro e w1 ⟨rfl,s⟩) | (go_at_call 19;with_reducible refine(M.out _).mono ?_;rintro e w1 ⟨rfl,s⟩))
 rename_i u;have x:Hid (Below w.heap.size w w1):=Nv u;obtain⟨c0,c5⟩:=Nw u;clear u J K L M;have N:Hid (sK l a i j k f->iP a=Lib.itoa a/\iP i=Lib.itoa i/\iP j=Lib.itoa j/\iP k=Lib.itoa k):=fun h=>⟨uY h.src.1,uY (by have:=h.src.2.2.1;omega),uY h.dst.1,uY (by have:=h.dst.2.2.1;omega)⟩;generalize iP a=L1 at *;generalize iP i=L2 at *;generalize iP j=L3 at *;generalize iP k=L4 at *;by_cases C:l=1
 ·subst C;go_wp2_with fail;go_ret;refine⟨⟨_,rfl,?_,fun h=>?_⟩,x.out⟩
  ·simp[ByteArray.size];omega
  ·obtain⟨rfl,rfl,rfl,rfl⟩:=N.out h;apply jB;simp[ByteArray.data_append,iT,uq]
 ·have P:(l==1)=false:=dG.2 C;have Q:Hid (¬l=1):=C;have O:Hid (∀W:World,Calls prog 40 #[.int .i64 f] W fun e w'=>(∃y:ByteArray,e=.returned (.string y)/\y.size<=20/\(0<=f->f<=15->y=⟨(fText f).toArray⟩))/\Below W.heap.size W w'):=fun W=>by
   by_cases z:0<=f/\f<=15
   ·have:=Ht f z.1 z.2;exact(Jt f z.1 z.2 W).mono fun e w' ⟨E,s⟩=>⟨⟨_,E,by simp[ByteArray.size];omega,fun _ _=>rfl⟩,s⟩
   ·exact(FU f I.out.1 I.out.2 W).mono fun e w' ⟨⟨y,E,F⟩,s⟩=>⟨⟨y,E,by omega,fun R S=>absurd ⟨R,S⟩ z⟩,s⟩
  clear C;go_wp2_with fail;refine(O.out _).mono ?_;rintro e T ⟨⟨y,rfl,F,A⟩,B⟩;have G:Hid (Below w.heap.size w T):=aZ x.out B;have H:Hid (0<=f->f<=15->y=⟨(fText f).toArray⟩):=A;clear B O A;go_wp2_with fail;go_ret;refine⟨⟨_,rfl,?_,fun h=>?_⟩,G.out⟩
  ·have U:y.data.size<=20:=F;clear F;simp only[ByteArray.size,WM,Oq,Fa,vX,xG];omega
  ·obtain⟨rfl,rfl,rfl,rfl⟩:=N.out h;obtain rfl:=H.out h.lo h.hi;obtain rfl:l=2:=by have:=h.proto;have:=Q.out;omega
   apply jB;simp[ByteArray.data_append,iT,uq]
end
section
variable {w:World}
def Ny (x:ByteArray) (a:List Int):List UInt8:=x.data.toList++a.flatMap fun n=>32::Lib.itoa n
def aho (f:Nat) (e:List Int):Prop:=match f,e with
 | 0,[]=>True
 | 1,[a]=>0<=a/\a<=1
 | 2,[a]=>0<=a/\a<=99999
 | 3,[a,b]=>(0<=a/\a<=1)/\0<=b/\b<=99999
 | _,_=>False
def LnX (x:ByteArray) (a:List Int) (p:Pk) (y:ByteArray):Prop:=∃k,lW x=some k/\((kC k=4/\sK p.pr p.a1 p.p1 p.a2 p.p2 p.fl/\y=⟨(x.data.toList++32::iT p.pr p.a1 p.p1 p.a2 p.p2 p.fl).toArray⟩)\/(aho (kC k) a/\y=⟨(Ny x a).toArray⟩))
def sG (x:ByteArray) (nv:Value) (p:Pk):Value:=.agg #[.string x,nv,.int .i64 p.pr,.int .i64 p.a1,.int .i64 p.p1,.int .i64 p.a2,.int .i64 p.p2,.int .i64 p.fl]
def kF (x:ByteArray) (nv:Value) (p:Pk):Obj:=.cells #[.string x,nv,.int .i64 p.pr,.int .i64 p.a1,.int .i64 p.p1,.int .i64 p.a2,.int .i64 p.p2,.int .i64 p.fl] 37
def LnA (w:World) (x:ByteArray) (a:List Int) (p:Pk) (e:Ending) (w':World):Prop:=(∃y b,e=.returned (.tuple #[.string y,.bool b])/\y.size<=300/\(b=true->LnX x a p y))/\Below w.heap.size w w'
structure P6 (p:Pk):Prop where
 pr:iR p.pr
 a1:iR p.a1
 p1:iR p.p1
 a2:iR p.a2
 p2:iR p.p2
 fl:iR p.fl
theorem agQ {W w1:World} {b:Nat} {x:ByteArray} {p:Pk} (h:W.cell? ⟨b,0,none⟩=some (.string x)/\W.cell? ⟨b,2,none⟩=some (.int .i64 p.pr)/\W.cell? ⟨b,3,none⟩=some (.int .i64 p.a1)/\W.cell? ⟨b,4,none⟩=some (.int .i64 p.p1)/\W.cell? ⟨b,5,none⟩=some (.int .i64 p.a2)/\W.cell? ⟨b,6,none⟩=some (.int .i64 p.p2)/\W.cell? ⟨b,7,none⟩=some (.int .i64 p.fl)/\Below w.heap.size w W) (a:Below W.heap.size W w1):w1.cell? ⟨b,0,none⟩=some (.string x)/\w1.cell? ⟨b,2,none⟩=some (.int .i64 p.pr)/\w1.cell? ⟨b,3,none⟩=some (.int .i64 p.a1)/\w1.cell? ⟨b,4,none⟩=some (.int .i64 p.p1)/\w1.cell? ⟨b,5,none⟩=some (.int .i64 p.a2)/\w1.cell? ⟨b,6,none⟩=some (.int .i64 p.p2)/\w1.cell? ⟨b,7,none⟩=some (.int .i64 p.fl)/\Below w.heap.size w w1:=by
 obtain⟨e,f,i,j,k,l,m,o⟩:=h;exact⟨tk a e,tk a f,tk a i,tk a j,tk a k,tk a l,tk a m,t2 o a⟩
theorem V6 (w:World) (x:ByteArray) (nv:Value) (p:Pk):(w.alloc (kF x nv p)).drew.cell? ⟨w.heap.size,0,none⟩=some (.string x)/\(w.alloc (kF x nv p)).drew.cell? ⟨w.heap.size,2,none⟩=some (.int .i64 p.pr)/\(w.alloc (kF x nv p)).drew.cell? ⟨w.heap.size,3,none⟩=some (.int .i64 p.a1)/\(w.alloc (kF x nv p)).drew.cell? ⟨w.heap.size,4,none⟩=some (.int .i64 p.p1)/\(w.alloc (kF x nv p)).drew.cell? ⟨w.heap.size,5,none⟩=some (.int .i64 p.a2)/\(w.alloc (kF x nv p)).drew.cell? ⟨w.heap.size,6,none⟩=some (.int .i64 p.p2)/\(w.alloc (kF x nv p)).drew.cell? ⟨w.heap.size,7,none⟩=some (.int .i64 p.fl)/\Below w.heap.size w (w.alloc (kF x nv p)).drew:=by
 have h:(w.alloc (kF x nv p)).drew.heap[w.heap.size]? = some (kF x nv p):=dh _ _;unfold kF at h;exact⟨(aP _ _ _ _ _ _ h).trans rfl,(aP _ _ _ _ _ _ h).trans rfl,(aP _ _ _ _ _ _ h).trans rfl,(aP _ _ _ _ _ _ h).trans rfl,(aP _ _ _ _ _ _ h).trans rfl,(aP _ _ _ _ _ _ h).trans rfl,(aP _ _ _ _ _ _ h).trans rfl,qZ (aB _ _)⟩
theorem V7 (x:ByteArray) (a:List Int) (z:Option Addr) (c:Nat) (p:Pk) (h:lW x=none) :
  Calls prog 7 #[sG x (.slice z a.length c) p] w (LnA w x a p):=by
 have j:Hid (∀u:World,Calls prog 16 #[.string x] u fun e w'=>e=.returned (.tuple #[.string (fmO x),.bool false])/\w'=u):=fun u=>by
  have:=kP x u;rw[h]at this;exact this
 clear h;unfold sG;have f:Hid (Below w.heap.size w (w.alloc (kF x (.slice z a.length c) p))):=aB _ _;unfold kF at f;go_enter func7,ntmps7;go_wp2_with fail;refine(j.out _).mono ?_;rintro e k ⟨rfl,i⟩;obtain rfl:=i.symm;clear i;go_wp2_with fail;go_ret2;exact⟨⟨⟨#[]⟩,false,rfl,by simp[ByteArray.size],fun h=>by cases h⟩,f.out⟩
theorem abb (x:ByteArray) (D:x.size<=60) (l:List Int) (z:Option Addr) (c:Nat) (p:Pk) (A:P6 p) (k:Nat) (h:lW x=some k) (m:kC k=4) :
  Calls prog 7 #[sG x (.slice z l.length c) p] w (LnA w x l p):=by
 have E:Hid (∀u:World,Calls prog 16 #[.string x] u fun e w'=>e=.returned (.tuple #[.string ⟨#[112]⟩,.bool true])/\w'=u):=fun u=>by
  have:=kP x u;unfold fmO at this;rw[h]at this;simp only[m]at this;exact this
 have a:Hid (lW x=some k/\kC k=4/\P6 p):=⟨h,m,A⟩;clear h m A;unfold sG;have F:Hid (Below w.heap.size w (w.alloc (kF x (.slice z l.length c) p))):=aB _ _;unfold kF at F;go_enter func7,ntmps7;go_wp2_with fail;refine(E.out _).mono ?_;rintro e G ⟨rfl,B⟩;obtain rfl:=B.symm;clear B;have H:=V6 w x (.slice z l.length c) p;have f:Hid (∀W:World,Calls prog 17 #[pkt p.pr p.a1 p.p1 p.a2 p.p2 p.fl] W fun e w'=>(∃y,e=.returned (.string y)/\PtV p.pr p.a1 p.p1 p.a2 p.p2 p.fl y)/\Below W.heap.size W w'):=fun W=>H9 _ _ _ _ _ _ a.out.2.2.a1 a.out.2.2.p1 a.out.2.2.a2 a.out.2.2.p2 a.out.2.2.fl W;have i:Hid (∀W:World,Calls prog 18 #[pkt p.pr p.a1 p.p1 p.a2 p.p2 p.fl] W fun e w'=>e=.returned (.int .i64 (dB p.pr p.a1 p.p1 p.a2 p.p2 p.fl:Int))/\Below W.heap.size W w'):=fun W=>DL _ _ _ _ _ _ W;have N:¬9223372036854775807 < x.size+1:=by omega
 go_wp2_with fail;go_region_held3 (fun w'=>w'.cell? ⟨w.heap.size,0,none⟩=some (.string x)/\w'.cell? ⟨w.heap.size,2,none⟩=some (.int .i64 p.pr)/\w'.cell? ⟨w.heap.size,3,none⟩=some (.int .i64 p.a1)/\w'.cell? ⟨w.heap.size,4,none⟩=some (.int .i64 p.p1)/\w'.cell? ⟨w.heap.size,5,none⟩=some (.int .i64 p.a2)/\w'.cell? ⟨w.heap.size,6,none⟩=some (.int .i64 p.p2)/\w'.cell? ⟨w.heap.size,7,none⟩=some (.int .i64 p.fl)/\Below w.heap.size w w')
  (first | assumption | exact H | exact agQ az az)
  (first
   | (go_at_call 17;(with_reducible refine(f.out _).mono ?_);rintro e G ⟨⟨y,rfl,o⟩,I⟩;have q:=o.1;have O:¬9223372036854775807 < x.size+1+y.size:=by omega)
   | (go_at_call 18;(with_reducible refine(i.out _).mono ?_);rintro e w2 ⟨rfl,I⟩))
 rename_i C;have s:Hid (Below w.heap.size w w2):=C.2.2.2.2.2.2.2;have J:Hid (PtV p.pr p.a1 p.p1 p.a2 p.p2 p.fl y):=o;clear C o f i;go_wp2_with fail;go_ret2;refine⟨⟨_,_,rfl,?_,fun h=>?_⟩,s.out⟩
 ·have K:x.data.size<=60:=D;have L:y.data.size<=140:=q;simp only[ByteArray.size,WM,Oq,Fa,vX,xG];omega
 ·have M:dB p.pr p.a1 p.p1 p.a2 p.p2 p.fl=0:=by simpa using h
  have j:=jI.1 M;refine⟨k,a.out.1,.inl ⟨a.out.2.1,j,?_⟩⟩;obtain rfl:=J.out.2 j;apply jB;simp[ByteArray.data_append]
def NsI (w:World) (z:Option Addr) (a:List Int):Prop:=∀(j:Nat) n,a[j]? = some n->iR n/\∃Z o,z=some ⟨Z,o,none⟩/\w.cell? ⟨Z,o+j,none⟩=some (.int .i64 n)
theorem abd (x:ByteArray) (i:List Int) (z:Option Addr) (c:Nat) (p:Pk) (k:Nat) (h:lW x=some k) (s:kC k < 4) (a:i.length≠(fmS (kC k)).size) :
  Calls prog 7 #[sG x (.slice z i.length c) p] w (LnA w x i p):=by
 have f:kC k=0\/kC k=1\/kC k=2\/kC k=3:=by omega
 have j:Hid (∀u:World,Calls prog 16 #[.string x] u fun e w'=>e=.returned (.tuple #[.string (fmS (kC k)),.bool true])/\w'=u):=fun u=>by
  have:=kP x u;unfold fmO at this;rw[h]at this;exact this
 clear h s;have o:Hid (Below w.heap.size w (w.alloc (kF x (.slice z i.length c) p))):=aB _ _;unfold kF at o;unfold sG;rcases f with f | f | f | f
 ·rw[f]at a j;clear f;simp only[fmS]at a j;have m:¬(i.length:Int)=0:=fun e=>a (by show i.length=0;omega);clear a;go_enter func7,ntmps7;go_wp2_with fail;refine(j.out _).mono ?_;rintro e q ⟨rfl,l⟩;obtain rfl:=l.symm;clear l;go_wp2_with fail;go_ret2;exact⟨⟨⟨#[]⟩,false,rfl,by simp[ByteArray.size],fun h=>by cases h⟩,o.out⟩
 ·rw[f]at a j;clear f;simp only[fmS]at a j;have m:¬(i.length:Int)=1:=fun e=>a (by show i.length=1;omega);clear a;go_enter func7,ntmps7;go_wp2_with fail;refine(j.out _).mono ?_;rintro e q ⟨rfl,l⟩;obtain rfl:=l.symm;clear l;go_wp2_with fail;go_ret2;exact⟨⟨⟨#[]⟩,false,rfl,by simp[ByteArray.size],fun h=>by cases h⟩,o.out⟩
 ·rw[f]at a j;clear f;simp only[fmS]at a j;have m:¬(i.length:Int)=1:=fun e=>a (by show i.length=1;omega);clear a;go_enter func7,ntmps7;go_wp2_with fail;refine(j.out _).mono ?_;rintro e q ⟨rfl,l⟩;obtain rfl:=l.symm;clear l;go_wp2_with fail;go_ret2;exact⟨⟨⟨#[]⟩,false,rfl,by simp[ByteArray.size],fun h=>by cases h⟩,o.out⟩
 ·rw[f]at a j;clear f;simp only[fmS]at a j;have m:¬(i.length:Int)=2:=fun e=>a (by show i.length=2;omega);clear a;go_enter func7,ntmps7;go_wp2_with fail;refine(j.out _).mono ?_;rintro e q ⟨rfl,l⟩;obtain rfl:=l.symm;clear l;go_wp2_with fail;go_ret2;exact⟨⟨⟨#[]⟩,false,rfl,by simp[ByteArray.size],fun h=>by cases h⟩,o.out⟩
end
theorem afK (W:Wo) (n:Int):W.yj n<=11:=zN 4 0 n aU W
theorem afL (W:Wo) (n:Int):W.vM n<=11:=zN 6 n 0 aU W
theorem yI {w0 w:World} {i q:Nat} {V:Wo} {v v':Value} {G A:List ByteArray} (h:Dv w0 w i V q v v' G A) (j:q<=80000) (k:Nat) (u:k=2\/k=3\/k=4\/k=5\/k=6) (a:Int) (Z o c:Nat) (p:Pk) (x:w.cell? (Z,o)=a) :
  Calls prog 8 #[.pointer (some (i,0)),sG (ky k) (.slice (some (Z,o)) 1 c) p] w fun e w'=>e=.returned (.string (dQ (jh k (if k<=4 then 0 else a) (if k<=4 then a else 0) aU V).1))/\Dv w0 w' i (jh k (if k<=4 then 0 else a) (if k<=4 then a else 0) aU V).2 (q+1) v v' G A:=by
 have l:Hid (Below w w (w.alloc (kF (ky k) (.slice (some (Z,o)) 1 c) p))):=aB _ _;have f:Hid (Dv w0 (w.alloc (kF (ky k) (.slice (some (Z,o)) 1 c) p)) i V q v v' G A):=h.below l;have y:=tk l x;clear h;unfold kF at l y f;unfold sG;rcases u with rfl | rfl | rfl | rfl | rfl;all_goals
  simp only[ky]at *;go_enter func8,ntmps8;go_wp2_with fail;refine Calls.mono (by first | exact agL f a j | exact adP f a j | exact aaZ f a j | exact adQ f a j | exact agM f a j) ?_;rintro e w2 ⟨rfl,m⟩;have z:Hid (Dv w0 w2 i _ (q+1) v v' G A):=m;clear m;go_wp2_with fail;refine(xk _ _ (by first | exact Jr V a | exact afK V a | exact zM V a | exact afL V a) okT).mono ?_;rintro e C ⟨rfl,s⟩;have B:=z.below s;clear s;go_wp2_with fail;go_ret;exact⟨rfl,B⟩
theorem SY {w0 w:World} {m q:Nat} {V:Wo} {v v':Value} {G A:List ByteArray} (h:Dv w0 w m V q v v' G A) (k:Nat) (D:k=0\/k=1) (a:Int) (b:Nat) (E:b<=100000) (J:q+cst k b<=80000) (Z o c:Nat) (p:Pk) (B:w.cell? (Z,o)=a) (C:w.cell? (Z,o+1)=b) :
  Calls prog 8 #[.pointer (some (m,0)),sG (ky k) (.slice (some (Z,o)) 2 c) p] w fun e w'=>e=.returned (.string (dQ (jh k a b aU V).1))/\Dv w0 w' m (jh k a b aU V).2 (q+cst k b) v v' G A:=by
 have s:Hid (Below w w (w.alloc (kF (ky k) (.slice (some (Z,o)) 2 c) p))):=aB _ _;have x:Hid (Dv w0 (w.alloc (kF (ky k) (.slice (some (Z,o)) 2 c) p)) m V q v v' G A):=h.below s;have F:=tk s B;have H:=tk s C;clear h B C;unfold kF at s F H x;unfold sG;rcases D with rfl | rfl
 ·simp only[ky]at *;have f:Hid (∀u,_):=fun u=>xk u _ (aa6 a b V) okT;have i:Hid (∀u,Below _ _ u->_):=fun u y=>aaY (x.below y) a b E (by have e:cst 0 (b:Int)=b:=fJ b;omega);go_enter func8,ntmps8;go_wp2_with fail;go_region_with (first | (go_at_call 21;refine(i _ ?_).mono ?_;exact bD;rintro e w2 ⟨rfl,j⟩) | (go_at_call 20;refine(f _).mono ?_;rintro e I ⟨rfl,l⟩))
  all_goals
   have z:=j.below l;clear i f j l;go_wp2_with fail;go_ret;exact⟨rfl,z⟩
 ·simp only[ky]at *;have f:Hid (∀u,_):=fun u=>xk u _ (zN 1 a b aU V) okT;have i:Hid (∀u,Below _ _ u->_):=fun u y=>afD (x.below y) a b om om;go_enter func8,ntmps8;go_wp2_with fail;go_region_with (first | (go_at_call 22;refine(i _ ?_).mono ?_;exact bD;rintro e w2 ⟨rfl,j⟩) | (go_at_call 20;refine(f _).mono ?_;rintro e I ⟨rfl,l⟩))
  all_goals
   have z:=j.below l;clear i f j l;go_wp2_with fail;go_ret;exact⟨rfl,z⟩
end Go.Proofs.YtnogmjekhjldcaaGreatDoor
