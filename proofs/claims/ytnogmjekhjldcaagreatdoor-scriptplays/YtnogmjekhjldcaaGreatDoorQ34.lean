/-
  What the claimed theorem reaches, part Q34.
-/
import Derived.Test.YtnogmjekhjldcaaGreatDoorQ33
import Derived.Test.YtnogmjekhjldcaaGreatDoorQ30
namespace Go.Proofs.YtnogmjekhjldcaaGreatDoor
open Go.RowKit Go.Proofs.Tryz
set_option maxRecDepth 100000
set_option maxHeartbeats 8000000
theorem QC (b:Nat) (life:Int) (T:Tb) (w:World) (t:lH w b life T) :
  Calls prog 165 #[.pointer (some (b,0))] w fun e w'=>e=.returned (.slice (some (w.heap.size,0)) 32 32)/\iD w' w T/\Below w w w':=by
 have a:=Kt t;have h:=wK;have f:Hid ((aK T).all (·.oneCell')=true):=uI T;clear t;go_enter func165,ntmps165;go_wp2_with (first | refine bP rfl 265 _ rfl _ _ rfl a ?_ | refine Xa rfl 265 _ _ rfl w (aK T) rfl rfl 265 _ (dh w _) (pq T) (by rw[bY];first | rfl | simp) f ?_)
 rw[aeK];go_ret;exact⟨rfl,dh w _,(aH _ _).alloc nL _⟩
section
variable {w0 w:World} {k:Bk} {x:No} {m n:Nat}
theorem H7 (Z cap:Nat) (T:Tb) (w:World) (C:iD w Z T) :
  Calls prog 107 #[.slice (some ⟨Z,0,none⟩) 32 cap] w fun e w'=>e=.returned (.int .i64 (jy T 32).length)/\Below w.heap.size w w':=by
 have h:Hid (iD w Z T):=C;have I:=C.lt;clear C;go_enter func107,ntmps107;go_wp2_with fail;go_loopw [3,5,8] (fun v _ t wr=>∃j:Nat,j<=32/\t=.int .i64 j/\v=.int .i64 (jy T j).length/\Below w.heap.size w wr) (fun _ _ t _=>32 - (intOf t).toNat)
 case atStart=>exact⟨0,by omega,rfl,rfl,aH _ _⟩
 case round =>
  obtain⟨j,J,rfl,rfl,l⟩:=hrel;have f:Hid (Below w.heap.size w wr):=l;have K:=l.size;clear l;by_cases a:j < 32
  ·obtain⟨c,p⟩:∃c,c=T j:=⟨_,rfl⟩;have o:Hid (c=T j):=p;have b0:=tk f.out (h.out.at' (i:=j) (k:=0) a om);have b1:=tk f.out (h.out.at' (i:=j) (k:=1) a om);have s:=tk f.out (h.out.at' (i:=j) (k:=2) a om);have u:=tk f.out (h.out.at' (i:=j) (k:=3) a om);have y:=tk f.out (h.out.at' (i:=j) (k:=4) a om);have z:=tk f.out (h.out.at' (i:=j) (k:=5) a om);have A:=tk f.out (h.out.at' (i:=j) (k:=6) a om);have B:=tk f.out (h.out.at' (i:=j) (k:=7) a om);have D:=tk f.out (h.out.at' (i:=j) (k:=8) a om);have E:=tk f.out (h.out.at' (i:=j) (k:=9) a om);rw[<- p]at b0 b1 s u y z A B D E;simp only[Ce.get,oV]at b0 b1 s u y z A B D E;have G:(0:Int)<=(j:Int):=by omega
   have L:(j:Int) < 32:=by omega
   have H:=mO T j;clear p;by_cases F:c.pr=0
   ·have q:Hid (jy T (j+1)=jy T j):=OO (by rw[<- o.out];exact F);go_wp2_with fail;go_roundw
    case rel=>exact⟨j+1,by omega,by go_num,by rw[q.out],f.out.alloc f.out.size _⟩
    case measure=>simp[intOf];omega
   ·have q:Hid (jy T (j+1)=jy T j++[c]):=by show _=_;rw[IE (by rw[<- o.out];exact F),o.out]
    go_wp2_with fail;go_roundw
    case rel=>exact⟨j+1,by omega,by go_num,by rw[q.out,jw];go_num,f.out.alloc f.out.size _⟩
    case measure=>simp[intOf];omega
  ·obtain rfl:j=32:=by omega
   go_wp2_with fail;go_ret;exact⟨rfl,f.out⟩
theorem aaU (h:Nd w0 w k x m n) :
  Calls prog 114 #[.pointer (some ⟨k.nd,0,none⟩)] w fun e w'=>e=.returned (.int .i64 x.life)/\w'=w:=by
 have c:=h.c2;clear h;go_enter func114,ntmps114;go_wp2_with fail;go_ret;exact⟨rfl,rfl⟩
theorem QD (h:Nd w0 w k x m n) :
  Calls prog 110 #[.pointer (some ⟨k.nd,0,none⟩)] w fun e w'=>(∃Z,e=.returned (.slice (some ⟨Z,0,none⟩) 32 32)/\iD w' Z x.mt)/\Below w.heap.size w w':=by
 have j:Hid (Nd w0 w k x m n):=h;have c:=h.c7;clear h;go_enter func110,ntmps110;go_wp2_with fail;refine(QC k.mi x.ml x.mt w j.out.mi).mono ?_;rintro e a ⟨rfl,f,b1⟩;have i:Hid (iD a w.heap.size x.mt/\Below w.heap.size w a):=⟨f,b1⟩;clear f b1;go_wp2_with fail;go_ret;exact⟨⟨_,rfl,i.out.1⟩,i.out.2⟩
theorem aaV (h:Nd w0 w k x m n) :
  Calls prog 106 #[.pointer (some ⟨k.nd,0,none⟩)] w fun e w'=>e=.returned (.int .i64 (jy x.T 32).length)/\Below w.heap.size w w':=by
 have l:Hid (Nd w0 w k x m n):=h;clear h;go_enter func106,ntmps106;go_wp2_with fail;refine(YB l.out).mono ?_;rintro e a ⟨⟨Z,rfl,f,_⟩,b1⟩;have i:Hid (iD a Z x.T/\Below w.heap.size w a):=⟨f,b1⟩;clear f b1;go_wp2_with fail;refine(H7 Z 32 x.T a i.out.1).mono ?_;rintro e w2 ⟨rfl,j⟩;have o:Hid (Below w.heap.size w w2):=t2 i.out.2 j;clear j;go_wp2_with fail;go_ret;exact⟨rfl,o.out⟩
theorem VW (h:Nd w0 w k x m n) :
  Calls prog 109 #[.pointer (some ⟨k.nd,0,none⟩)] w fun e w'=>e=.returned (.int .i64 (jy x.mt 32).length)/\Below w.heap.size w w':=by
 have l:Hid (Nd w0 w k x m n):=h;clear h;go_enter func109,ntmps109;go_wp2_with fail;refine(QD l.out).mono ?_;rintro e a ⟨⟨Z,rfl,f⟩,b1⟩;have i:Hid (iD a Z x.mt/\Below w.heap.size w a):=⟨f,b1⟩;clear f b1;go_wp2_with fail;refine(H7 Z 32 x.mt a i.out.1).mono ?_;rintro e w2 ⟨rfl,j⟩;have o:Hid (Below w.heap.size w w2):=t2 i.out.2 j;clear j;go_wp2_with fail;go_ret;exact⟨rfl,o.out⟩
theorem aaW (h:Nd w0 w k x m n) :
  Calls prog 111 #[.pointer (some ⟨k.nd,0,none⟩)] w fun e w'=>e=.returned (.int .i64 x.ro.ep)/\w'=w:=by
 have f:Hid (Nd w0 w k x m n):=h;have c0:=h.c0;clear h;go_enter func111,ntmps111;go_wp2_with fail;refine(wB k.ro _ _ f.out.ro).mono ?_;rintro e i ⟨rfl,a⟩;obtain rfl:=a.symm;clear a;go_wp2_with fail;go_ret;exact⟨rfl,rfl⟩
theorem adN (h:Nd w0 w k x m n) :
  Calls prog 113 #[.pointer (some ⟨k.nd,0,none⟩)] w fun e w'=>e=.returned (.int .i64 x.life)/\w'=w:=by
 have f:Hid (Nd w0 w k x m n):=h;clear h;go_enter func113,ntmps113;go_wp2_with fail;refine(aaU f.out).mono ?_;rintro e i ⟨rfl,a⟩;obtain rfl:=a.symm;clear a;go_wp2_with fail;go_ret;exact⟨rfl,rfl⟩
def dnT:ByteArray:=⟨#[100,111,119,110]⟩
def yeT:ByteArray:=⟨#[121,101,115]⟩
def nuT:ByteArray:=⟨#[110,111]⟩
def acT (W:Wo) (n:Int):ByteArray:=if W.jW n=0 then (match W.nd n.toNat with | some y=>(if y.ro.ac then yeT else nuT) | none=>nuT) else dnT
theorem ES {Y:Nat->Option Obj} {wb B N b M pb t:Nat} {W:Wo} {s:Nat->Addr} (S:jm w0 s) (h:Pw w0 w wb Y B N b M pb W t) (n:Int) :
  Calls prog 103 #[.pointer (some ⟨b,0,none⟩),.int .i64 n] w fun e w'=>e=.returned (.string (acT W n))/\Below w.heap.size w w':=by
 have c1:=h.b0;obtain⟨K,A,F,G,rfl⟩:=h;have C:Hid (Wd w0 w K W t):=A;have H:Hid (jm w0 s):=S;clear S A F G;go_enter func103,ntmps103;go_wp2_with fail;refine(Sv H.out C.out n).mono ?_;rintro e w2 ⟨o | o,a⟩
 ·obtain⟨i,y,k,rfl,I,p,D,rfl⟩:=o;obtain⟨q,m',J,f,nd,_⟩:=(C.out.below a).up I p;have L:q=k:=sS (f.symm.trans D);subst L;have O:Hid (Nd w0 w2 q y m' J):=nd;have l:Hid (Below w.heap.size w w2):=a;have j:Hid (acT W (i:Int)=if y.ro.ac then yeT else nuT):=by
   show _=_;have u:W.jW (i:Int)=0:=by unfold Wo.jW;rw[aj om,fJ,p];rfl
   unfold acT;rw[aj u,fJ,p]
  have c0:=nd.c0;clear nd a D f;go_wp2_with fail;refine(dR q.ro _ _ O.out.ro).mono ?_;rintro e Q ⟨rfl,E⟩;obtain rfl:=E.symm;clear E;generalize z:y.ro.ac=ac at j;clear z
  cases ac
  ·go_wp2_with fail;go_ret;exact⟨by rw[j.out];rfl,l.out⟩
  ·go_wp2_with fail;go_ret;exact⟨by rw[j.out];rfl,l.out⟩
 ·obtain⟨R,P,rfl⟩:=o;have j:Hid (acT W n=dnT):=by
   show _=_;unfold acT;rw[ak om]
  have l:Hid (Below w.heap.size w w2):=a;clear a P;go_wp2_with fail;go_ret;exact⟨by rw[j.out];rfl,l.out⟩
end
section
variable {q:Nat} {W:Wo}
def kC:Nat->Nat
 | 0=>3
 | 1=>3
 | 2=>2
 | 3=>2
 | 4=>2
 | 5=>1
 | 6=>1
 | 7=>4
 | 8=>4
 | 9=>0
 | 10=>0
 | 11=>0
 | 12=>0
 | _=>1
theorem QE:∀k,kC k < 5
 | 0 | 1 | 2 | 3 | 4 | 5 | 6 | 7 | 8 | 9 | 10 | 11 | 12=>by decide
 | _+13=>by show 1 < 5;omega
def lW (x:ByteArray):Option Nat:=(List.range 18).find? fun k=>decide (ky k=x)
theorem mG {x:ByteArray} {k:Nat} (h:lW x=some k):k < 18/\ky k=x:=by
 have a:=List.find?_some h;have e:=List.mem_of_find?_eq_some h;exact⟨List.mem_range.1 e,by simpa using a⟩
theorem Jp {k:Nat} (a:k < 18):lW (ky k)=some k:=by
 cases h:lW (ky k) with
 | none =>
  have:=List.find?_eq_none.1 h k (List.mem_range.2 a);simp at this
 | some j =>
  obtain⟨e,f⟩:=mG h;rw[aal e a f]
def kZ (x:ByteArray):Option (Nat×Int×Int×Pk) :=
 match words x 32 with
 | a::r=>(match lW a with | some k=>(gy (kC k) r).map fun g=>(k,g) | none=>none)
 | []=>none
def okT:ByteArray:=⟨#[111,107]⟩
def FT (z:Int):ByteArray:=⟨(Lib.itoa z).toArray⟩
def pkT (p:Pk):ByteArray×Nat:=if dB p.pr p.a1 p.p1 p.a2 p.p2 p.fl=0 then (⟨(iT p.pr p.a1 p.p1 p.a2 p.p2 p.fl).toArray⟩,0) else (⟨#[]⟩,dB p.pr p.a1 p.p1 p.a2 p.p2 p.fl)
def SV (e:Nat) (p:Pk):ByteArray×Nat:=if e=0 then pkT p else (⟨#[]⟩,e)
def WG (W:Wo) (n:Int) (g:No->Int):ByteArray×Nat:=if W.jW n=0 then (match W.nd n.toNat with | some y=>(FT (g y),0) | none=>(⟨#[]⟩,0)) else (⟨#[]⟩,W.jW n)
def jh (k:Nat) (n m:Int) (p:Pk) (W:Wo):(ByteArray×Nat)×Wo :=
 match k with
 | 0=>((okT,(wt n m.toNat W).1),(wt n m.toNat W).2)
 | 1=>((okT,W.Ob n m),W.fV n m)
 | 2=>((okT,W.pK m),W.nI m)
 | 3=>((okT,W.pK m),W.dropped m)
 | 4=>((okT,W.yj m),W.bT m)
 | 5=>((okT,W.jW n),W.fU n)
 | 6=>((okT,W.vM n),W.iL n)
 | 7=>(SV (W.oh p) (W.eU p),W.ins p)
 | 8=>(SV (W.nR p) (W.fB p),W.jd p)
 | 9=>((FT W.fl.length,0),qV W.fl.length W)
 | 10=>((FT W.fl.length,0),W)
 | 11=>((swT W,0),W)
 | 12=>((evT W,0),W)
 | 13=>((acT W n,0),W)
 | 14=>(WG W n fun y=>(jy y.T 32).length,W)
 | 15=>(WG W n fun y=>(jy y.mt 32).length,W)
 | 16=>(WG W n fun y=>y.ro.ep,W)
 | _=>(WG W n fun y=>y.life,W)
def oK (x:ByteArray) (W:Wo):(ByteArray×Nat)×Wo:=match kZ x with
 | some (k,n,m,p)=>jh k n m p W
 | none=>((⟨#[]⟩,1),W)
def dQ (r:ByteArray×Nat):ByteArray:=match r.2 with | 0=>r.1 | e+1=>etx e
def E8:List ByteArray->Wo->List ByteArray
 | [],_=>[]
 | x::l,W=>dQ (oK x W).1::E8 l (oK x W).2
def WH:List ByteArray->Wo->Wo
 | [],W=>W
 | x::l,W=>WH l (oK x W).2
theorem BG:∀(l:List ByteArray) (W:Wo),(E8 l W).length=l.length
 | [],_=>rfl
 | _::l,_=>congrArg (·+1) (BG l _)
theorem uw:∀(l:List ByteArray) (x:ByteArray) (W:Wo),WH (l++[x]) W=(oK x (WH l W)).2/\E8 (l++[x]) W=E8 l W++[dQ (oK x (WH l W)).1]
 | [],x,W=>⟨rfl,rfl⟩
 | y::l,x,W=>by
  obtain⟨a,e⟩:=uw l x (oK y W).2;exact⟨a,dP (dQ (oK y W).1::·) e⟩
def cst (k:Nat) (m:Int):Nat:=if k=0 then m.toNat else 1
def oL (x:ByteArray):Nat:=match kZ x with
 | some (k,_,m,_)=>cst k m
 | none=>0
def yH:List ByteArray->Nat
 | []=>0
 | x::l=>oL x+yH l
structure BH (q:Nat) (W:Wo):Prop where
 i:In q W
 s:Sk q W
 r:aF W.ru
theorem BH.mono {q':Nat} (h:BH q W) (a:q<=q'):BH q' W:=⟨h.i.mono a,h.s.mono a,h.r⟩
theorem BH.born {l:List Rl} (hr:aF l):BH 1 (Wo.born l):=⟨In.born hr,Sk.born l,hr⟩
theorem QG (W:Wo) (n:Int):(W.rU n).ru=W.ru:=by
 unfold Wo.rU Wo.au Wo.noted Wo.sent Wo.bQ;repeat' split
 all_goals rfl
theorem aez (n:Int):∀(k:Nat) (W:Wo),(wt n k W).2.ru=W.ru
 | 0,_=>rfl
 | k+1,W=>by
  unfold wt;split
  ·exact(aez n k _).trans (QG W n)
  ·exact QG W n
theorem aaX (W:Wo) (n:Int):(W.nI n).ru=W.ru:=by
 unfold Wo.nI Wo.delivered Wo.heard Wo.handed;repeat' split
 all_goals rfl
theorem QH (W:Wo):∀k,(qV k W).ru=W.ru
 | 0=>rfl
 | k+1=>(aaX (qV k W) 0).trans (QH W k)
theorem BH.jh (h:BH q W) (k:Nat) (n m:Int) (p:Pk) (a:q+cst k m<=250000):BH (q+cst k m) (jh k n m p W).2:=by
 match k,a with
 | 0,a =>
  have e:cst 0 m=m.toNat:=rfl;rw[e]at a ⊢;exact⟨h.i.wt _ om,h.s.wt _ h.i om,by show aF (wt n m.toNat W).2.ru;rw[aez];exact h.r⟩
 | 1,_=>exact⟨(h.i.cut n m).mono om,(h.s.cut n m).mono om,by
   show aF (W.fV n m).ru;unfold Wo.fV;repeat' split
   all_goals exact h.r⟩
 | 2,_=>exact⟨(h.i.nI m).mono om,(h.s.nI h.i m).mono om,by show aF (W.nI m).ru;rw[aaX];exact h.r⟩
 | 3,_=>exact⟨(h.i.drop m).mono om,(h.s.drop m).mono om,by
   show aF (W.dropped m).ru;unfold Wo.dropped;repeat' split
   all_goals exact h.r⟩
 | 4,_=>exact⟨(h.i.bT m).mono om,(h.s.twice m).mono om,by show aF (W.bT m).ru;rw[(W.jJ m).2.2.1];exact h.r⟩
 | 5,_=>exact⟨(h.i.down n).mono om,(h.s.down n).mono om,by
   show aF (W.fU n).ru;unfold Wo.fU Wo.bQ;repeat' split
   all_goals exact h.r⟩
 | 6,a=>exact⟨h.i.upN om h.r n,(h.s.upN n).mono om,by
   show aF (W.iL n).ru;unfold Wo.iL;repeat' split
   all_goals exact h.r⟩
 | 7,_=>exact⟨(h.i.inside p).mono om,(h.s.inside p).mono om,by
   show aF (W.ins p).ru;unfold Wo.ins;repeat' split
   all_goals exact h.r⟩
 | 8,_=>exact⟨(h.i.outside p).mono om,(h.s.outside p).mono om,by
   show aF (W.jd p).ru;unfold Wo.jd;repeat' split
   all_goals exact h.r⟩
 | 9,_=>exact⟨(h.i.qV _).mono om,(h.s.qV h.i _).mono om,by show aF (qV W.fl.length W).ru;rw[QH];exact h.r⟩
 | 10,_ | 11,_ | 12,_ | 13,_ | 14,_ | 15,_ | 16,_=>exact h.mono om
 | _+17,_=>exact h.mono om
theorem BH.oK (h:BH q W) (x:ByteArray) (a:q+oL x<=250000):BH (q+oL x) (oK x W).2:=by
 unfold Go.Proofs.YtnogmjekhjldcaaGreatDoor.oK oL at *
 cases e:kZ x with
 | none=>exact h
 | some g =>
  rw[e]at a;exact h.jh _ _ _ _ a
end
theorem Stp.ro {W a:Wo} (s:Stp W a) (h:aF W.ru):aF a.ru:=by
 cases s with
 | tick n =>
  unfold Wo.rU Wo.au Wo.noted Wo.sent Wo.bQ;repeat' split
  all_goals exact h
 | down n =>
  unfold Wo.fU Wo.bQ;repeat' split
  all_goals exact h
 | up n =>
  unfold Wo.iL;repeat' split
  all_goals exact h
 | cut n m =>
  unfold Wo.fV;repeat' split
  all_goals exact h
 | ins p =>
  unfold Wo.ins;repeat' split
  all_goals exact h
 | jd p =>
  unfold Wo.jd;repeat' split
  all_goals exact h
 | drop n =>
  unfold Wo.dropped;repeat' split
  all_goals exact h
 | twice n=>rw[(W.jJ n).2.2.1];exact h
 | rules l hl=>exact hl
 | nI n =>
  unfold Wo.nI Wo.delivered Wo.heard Wo.handed;repeat' split
  all_goals exact h
 | stay=>exact h
structure LE (W:Wo):Prop where
 l:Lv W
 e:EW W
section
variable {q:Nat} {W W':Wo}
theorem LE.born {l:List Rl} (hr:aF l):LE (Wo.born l):=⟨Lv.born hr,EW.born l⟩
theorem LE.mP (h:LE W) (o:In q W) (a:q<=100000) (hr:aF W.ru) (s:Stp W W'):LE W':=⟨h.l.mP o a hr s,h.e.mP s⟩
theorem LE.wt (n:Int):∀(k:Nat) {q:Nat} {W:Wo},LE W->In q W->aF W.ru->q+k<=100000->LE (wt n k W).2
 | 0,_,_,h,_,_,_=>h
 | k+1,q,W,h,o,r,hq=>by
  unfold Go.Proofs.YtnogmjekhjldcaaGreatDoor.wt;have a:=h.mP o om r (.tick W n);split
  ·exact LE.wt n k a (o.tick om n) (by rw[QG];exact r) om
  ·exact a
theorem LE.qV (h:LE W) (o:In q W) (a:q<=100000) (r:aF W.ru):∀k,LE (qV k W)
 | 0=>h
 | k+1=>(LE.qV h o a r k).mP (o.qV k) a (by rw[QH];exact r) (.nI _ 0)
theorem LE.jh (h:LE W) (o:BH q W) (k:Nat) (n m:Int) (p:Pk) (a:q+cst k m<=100000):LE (jh k n m p W).2:=by
 have st:∀{V:Wo},Stp W V->LE V:=fun s=>h.mP o.i om o.r s;match k,a with
 | 0,a=>exact LE.wt n m.toNat h o.i o.r (by have e:cst 0 m=m.toNat:=rfl;omega)
 | 1,_=>exact st (.cut W n m)
 | 2,_=>exact st (.nI W m)
 | 3,_=>exact st (.drop W m)
 | 4,_=>exact st (.twice W m)
 | 5,_=>exact st (.down W n)
 | 6,_=>exact st (.up W n)
 | 7,_=>exact st (.ins W p)
 | 8,_=>exact st (.jd W p)
 | 9,_=>exact h.qV o.i om o.r _
 | 10,_ | 11,_ | 12,_ | 13,_ | 14,_ | 15,_ | 16,_=>exact h
 | _+17,_=>exact h
end
theorem BI {w w':World} {D i:RK} {base n size:Nat} {e:TypeId} {v:Value} {cs:List Value} (h:w.ownsRow base e size v n cs) (m:eX D i w w') (j:∀g,v.ownBlock=some g->D.tag g=9):w'.ownsRow base e size v n cs/\∀g,v.ownBlock=some g->i.tag g=9:=by
 have k:∀g,v.ownBlock=some g->g < w.heap.size:=fun g f=>(h.lt g f).2;refine⟨⟨h.1,?_⟩,fun g f=>(m.tag g (k g f)).trans (j g f)⟩;rcases h.2 with q | ⟨g',a,cur,l,p,s,u⟩
 ·exact .inl q
 ·have o:v.ownBlock=some g':=by rw[l];rfl
  exact .inr ⟨g',a,cur,l,p,(m.block g' (k g' o) (.inl (j g' o))).trans s,u⟩
structure Dr (w0 w:World) (D:RK) (V:Wo) (u:Nat) (v v':Value) (G A:List ByteArray):Prop where
 d:cZ w0 w D V u
 g:w.ownsRow w0 9 1 v G.length (G.map Value.string)
 a:w.ownsRow w0 9 1 v' A.length (A.map Value.string)
 tg:∀g,v.ownBlock=some g->D.tag g=9
 ta:∀g,v'.ownBlock=some g->D.tag g=9
 ne:∀g,v.ownBlock=some g->v'.ownBlock≠some g
section
variable {w0 w w':World} {D D':RK} {V V':Wo} {u u':Nat} {v v':Value} {G A:List ByteArray}
theorem Dr.mv (h:Dr w0 w D V u v v' G A) (d:cZ w0 w' D' V' u') (m:eX D D' w w'):Dr w0 w' D' V' u' v v' G A :=
 ⟨d,(BI h.g m h.tg).1,(BI h.a m h.ta).1,(BI h.g m h.tg).2,(BI h.a m h.ta).2,h.ne⟩
theorem Dr.below (h:Dr w0 w D V u v v' G A) (b:Below w w w'):Dr w0 w' D V u v v' G A:=h.mv (h.d.below b) (eX.of b)
theorem Dr.grow {y:ByteArray} {z:Value} (h:Dr w0 w D V u v v' G A) (o:w'.ownsRow w0 9 1 z (G++[y]).length ((G++[y]).map Value.string)) (g:w.grownBy w' v.ownBlock) (k:z.ownBlock=v.ownBlock\/z.ownBlock=some w):Dr w0 w' D V u z v' (G++[y]) A:=by
 have p:v'.ownBlock=none\/v'.ownBlock≠v.ownBlock:=by
  cases j:v'.ownBlock with
  | none=>exact .inl rfl
  | some b=>exact .inr fun e=>h.ne b e.symm j
 have q:∀b,z.ownBlock=some b->D.tag b=9:=fun b f=>by
  rcases k with e | e
  ·exact h.tg b (e ▸ f)
  ·rw[e]at f;cases f;exact h.d.al _ nL
 have ch:cZ w0 w' D V u:=by
  cases j:v.ownBlock with
  | none=>exact h.d.below ⟨g.os,g.tape,g.output,g.size,fun b f=>g.block b f (by rw[j];simp)⟩
  | some b =>
   refine h.d.KT (l:=[b]) (fun c i=>?_) (fun c i=>?_) ⟨g.os,g.tape,g.output,g.size,fun c i s=>g.block c i (by rw[j];simp at s;simp;omega)⟩
   ·simp at i;subst i;exact h.tg _ j
   ·simp at i;subst i;exact(h.g.lt _ j).1
 refine⟨ch,o,h.a.kept g p,q,h.ta,fun b f m=>?_⟩;rcases k with e | e
 ·exact h.ne b (e ▸ f) m
 ·rw[e]at f
  cases f
  exact absurd (h.a.lt _ m).2 (Nat.lt_irrefl _)
theorem Dr.swap (h:Dr w0 w D V u v v' G A):Dr w0 w D V u v' v A G:=⟨h.d,h.a,h.g,h.ta,h.tg,fun b e f=>h.ne b f e⟩
end
def Dv (w0 w:World) (a:Nat) (V:Wo) (q:Nat) (v v':Value) (G A:List ByteArray):Prop:=∃D u,Dr w0 w D V u v v' G A/\u<=q/\D.wb=a/\BH q V/\LE V
section
variable {w0 w w':World} {db q:Nat} {V:Wo} {v v':Value} {G A:List ByteArray}
theorem Dv.below (h:Dv w0 w db V q v v' G A) (b:Below w w w'):Dv w0 w' db V q v v' G A:=by
 obtain⟨D,u,d,r⟩:=h;exact⟨D,u,d.below b,r⟩
theorem Dv.bl (h:Dv w0 w db V q v v' G A):Below w0 w0 w:=by
 obtain⟨D,u,d,r⟩:=h;exact d.d.bl
theorem Dv.grow {y:ByteArray} {z:Value} (h:Dv w0 w db V q v v' G A) (o:w'.ownsRow w0 9 1 z (G++[y]).length ((G++[y]).map Value.string)) (g:w.grownBy w' v.ownBlock) (a:z.ownBlock=v.ownBlock\/z.ownBlock=some w):Dv w0 w' db V q z v' (G++[y]) A:=by
 obtain⟨D,u,d,r⟩:=h;exact⟨D,u,d.grow o g a,r⟩
theorem Dv.swap (h:Dv w0 w db V q v v' G A):Dv w0 w db V q v' v A G:=by
 obtain⟨D,u,d,r⟩:=h;exact⟨D,u,d.swap,r⟩
theorem Dv.call (h:Dv w0 w db V q v v' G A) {f:FuncId} {i:Array Value} {r:Value} (k:Nat) (n m:Int) (p:Pk) (x:q+cst k m<=90000)
  (C:∀D u,cZ w0 w D V u->u<=q->D.wb=db->BH q V->LE V->Calls prog f i w fun e w'=>e=.returned r/\∃a u',cZ w0 w' a (jh k n m p V).2 u'/\u'<=u+cst k m/\eX D a w w') :
  Calls prog f i w fun e w'=>e=.returned r/\Dv w0 w' db (jh k n m p V).2 (q+cst k m) v v' G A:=by
 obtain⟨D,u,d,l,j,ok,le⟩:=h;refine(C D u d.d l j ok le).mono ?_;rintro e w' ⟨rfl,a,u',o,s,m'⟩;exact⟨rfl,a,u',d.mv o m',by omega,m'.wb.trans j,ok.jh k n m p om,le.jh ok k n m p om⟩
end
structure PE (i:Nat) (W:Wo):Prop where
 i:In i W
 r:aF W.ru
 l:LE W
theorem PE.mP {i:Nat} {W W':Wo} (h:PE i W) (a:i<=90000) (s:Stp W W'):PE (i+1) W':=⟨h.i.mP om h.r s,s.ro h.r,h.l.mP h.i om h.r s⟩
theorem VX {w0 w:World} {D:RK} {W:Wo} {u i:Nat} (h:cZ w0 w D W u) (P:PE i W) (k:Nat) (H:k<=100000) (I:i+k<=90000) (J:u+k<=90000) (n:Int) :
  Calls prog 21 #[.pointer (some (D.wb,0)),n,k] w fun e w'=>e=.returned (.int .i64 ((wt n k W).1:Nat))/\∃j,cZ w0 w' j (wt n k W).2 (u+k)/\eX D j w w':=by
 have o:Hid (cZ w0 w D W u/\PE i W/\k<=100000/\i+k<=90000/\u+k<=90000):=⟨h,P,H,I,J⟩;clear h P I J;have O:(k:Int)<=100000:=by omega
 clear H;go_enter func21,ntmps21;go_wp2_with fail;go_loopw [7] (fun B x=>∃r:Nat,r<=k/\B=.int .i64 r/\∃j V,cZ w0 x j V (u+r)/\PE (i+r) V/\wt n k W=wt n (k - r) V/\eX D j w x) (fun B _=>k - (intOf B).toNat)
 case atStart=>exact⟨0,by omega,rfl,D,W,o.1,o.2.1,rfl,eX.of bR⟩
 case round =>
  obtain⟨r,hr,rfl,j,V,K,L,M,mv⟩:=hrel;have m:Hid (cZ w0 wr j V (u+r)/\PE (i+r) V/\eX D j w wr):=⟨K,L,mv⟩;have C:Hid (wt n k W=wt n (k - r) V):=M;clear K L M mv;by_cases E:r < k
  ·have Q:(r:Int) < (k:Int):=by omega
   have p:Hid (r < k):=E;go_wp2_with fail;have a:=Vx m.1 (by have:=o.out;have:=p.out;omega) n (m.2.1.l.l.ahl m.2.1.i (by have:=o.out;have:=p.out;omega) n);rw[m.2.2.wb]at a;refine a.mono ?_;clear a;rintro e w2 ⟨rfl,z,q,N⟩;have s:Hid (cZ w0 w2 z (V.rU n) (u+r+1)/\PE (i+r+1) (V.rU n)/\eX D z w w2):=⟨q,m.2.1.mP (by have:=o.out;have:=p.out;omega) (.tick V n),m.2.2.trans N⟩;have y:Hid (wt n (k - r) V=if V.Ee n=0 then wt n (k - (r+1)) (V.rU n) else (V.Ee n,V.rU n)):=by
    have F:k - r=k - (r+1)+1:=by have:=p.out;omega
    show wt n (k - r) V=_;rw[F];rfl
   clear q N
   cases A:V.Ee n with
   | zero =>
    have f:Hid (wt n k W=wt n (k - (r+1)) (V.rU n)):=by show _=_;rw[C.out,y.out,aj A]
    clear A;go_wp2_with fail;exact⟨⟨r+1,by omega,by go_num,z,V.rU n,s.1,s.2.1,f,s.2.2⟩,by simp[intOf];omega⟩
   | succ c =>
    have f:Hid (wt n k W=(c+1,V.rU n)):=by show _=_;rw[C.out,y.out,ak om,A]
    have c1:(0:Int) < ((c+1:Nat):Int):=by omega
    clear A;generalize G:((c+1:Nat):Int)=cc at *;go_wp2_with fail;go_ret;exact⟨by rw[f.out,<- G];rfl,z,by rw[f.out];exact s.1.mono (by have:=p.out;omega),s.2.2⟩
  ·obtain rfl:r=k:=by omega
   have f:Hid (wt n r W=(0,V)):=by show _=_;rw[C.out,TN];rfl
   go_wp2_with fail;go_ret;exact⟨by rw[f.out];rfl,j,by rw[f.out];exact m.1,m.2.2⟩
theorem cZ.rise {w0 w w2 w3:World} {D:RK} {W:Wo} {u i:Nat} {r:fC} {q:Ro} (h:cZ w0 w D W u) (z:i < 2) (F:W.nd i=none) (G:r.yb=D.yk i) (A:∀g ∈ r.all,g=D.yk i\/w.heap.size<=g) (nd:bH w0 w2 r (No.new i (W.yb i).fF W.ru) q (pV (u+1)) ((u+1:Nat):Int) (33 * (u+1))) (c:ay [D.yk i] w w2) (e:w3=w2.setCell (D.nb,i) (.pointer (some (r.nd,0)))) :
  ∃B,cZ w0 w3 B (W.vK i) (u+1)/\eX D B w w3:=by
 obtain⟨M,_,x⟩:=h.down z F;obtain⟨H,o,I⟩:=h.tw;have C:aC D.nb w2 w3:=by rw[e];exact aC.set _ _ _ _
 have y:ay [D.yk i,D.nb] w w3:=(c.mono (fun b a=>.inl (by simp at a ⊢;exact .inl a))).trans (ay.one C sM);have f:∀b ∈ [D.yk i,D.nb],D.tag b=i+1\/D.tag b=6:=fun b a=>by
  simp only[dI,eY,fA]at a;rcases a with rfl | rfl
  ·exact .inl x
  ·exact .inr o
 have p:∀b ∈ r.all,b≠D.nb:=fun b a e=>by
  rcases A b a with q | q
  ·rw[<- q,e]at x;omega
  ·have:=h.nb.lt;omega
 have J:=c.size;have s:bH w0 w3 r (No.new i (W.yb i).fF W.ru) q (pV (u+1)) ((u+1:Nat):Int) (33 * (u+1)):=nd.kept (ay.one (l:=[D.nb]) C sM) (fun b a k=>p b a (by simpa using k)) (fun b a=>by rw[jA.1 a];exact h.g0 _ om);have E:∀b,b < w.heap.size->(if b < w.heap.size then D.tag b else if b ∈ r.all then i+1 else 9)=D.tag b:=fun b a=>aj a;refine⟨{D with nk:=aQ D.nk i (some r),tag:=fun b=>if b < w.heap.size then D.tag b else if b ∈ r.all then i+1 else 9},h.make [D.yk i,D.nb] y (fun b a=>⟨h.g0 b (by have:=f b a;omega),by have:=f b a;omega,by have:=f b a;omega⟩) (wz u) E (fun b a=>?_) ⟨rfl,rfl,rfl,rfl⟩ (h.wb.kept (y.block _ h.wb.lt (fun k=>by have:=f _ k;omega))) (.inl ?_) (fun j K=>?_) (.inr ⟨rfl,rfl⟩) (.inr ⟨rfl,rfl,rfl,fun b a=>by have:=f b a;omega⟩) (.inr ⟨rfl,rfl,fun b a=>by have:=f b a;omega⟩),eX.list y (fun b a=>by have:=f b a;omega) E rfl⟩
 ·have:=C.size;show(if b < w.heap.size then _ else _)=_;rw[ak om,ak (fun k=>by have:=s.blk b k;omega)]
 ·have L:MN w2 D.nb D.nv:=h.nb.kept (c.block _ h.nb.lt (fun k=>by have q:=jA.1 k;rw[q]at o;omega));rw[e];refine(L.put z _).as (fun j K=>?_);show(.pointer ((aQ D.nk i (some r) j).map fun r=>(r.nd,0)):Value)=aQ D.nv i _ j;by_cases e:j=i
  ·subst e;rw[aG,aG];rfl
  ·rw[aI _ _ e,aI _ _ e];rfl
 ·by_cases e:j=i
  ·subst e;refine .inl ⟨.inl ⟨r,_,q,aG _ _ _,aG _ _ _,s,G,?_,?_,rfl⟩,fun b a=>?_⟩
   ·show(0:Int)<=0;omega
   ·show(0:Int)<=_;omega
   ·have m:b ∈ (match aQ D.nk j (some r) j with | some r=>r.all | none=>[D.yk j]):=a;rw[aG]at m;show(if b < w.heap.size then _ else _)=_;rcases A b m with q | q
    ·rw[aj (by rw[q];exact h.lt om),q];exact x
    ·rw[ak om,aj m]
  ·exact .inr ⟨aI _ _ e,aI _ _ e,rfl,fun b a=>by have:=f b a;omega⟩
theorem adO {w0 w:World} {D:RK} {W:Wo} {u:Nat} (h:cZ w0 w D W u) (E:u<=100000) (n:Int) (N:∀i:Nat,n=i->i < 2->W.nd i=none->sD i (W.yb i).fF W.ru) :
  Calls prog 27 #[.pointer (some ⟨D.wb,0,none⟩),.int .i64 n] w fun e w'=>e=.returned (.int .i64 (W.vM n:Nat))/\∃F,cZ w0 w' F (W.iL n) (u+1)/\eX D F w w':=by
 have j:Hid (cZ w0 w D W u):=h;have M:Hid (u<=100000/\∀i:Nat,n=i->i < 2->W.nd i=none->sD i (W.yb i).fF W.ru):=⟨E,N⟩;have c0:w.cell? ⟨D.wb,0,none⟩=some (.slice (some ⟨D.nb,0,none⟩) 2 D.nc):=(h.wb.c 0).trans rfl;rcases qP W n with⟨i,x,rfl,hi,hx,he⟩ | ⟨i,rfl,hi,hx,he⟩ | ⟨hn,he⟩
 ·have k:Hid (W.vM (i:Int)=11/\W.iL (i:Int)=W):=by
   have e:W.vM (i:Int)=11:=by unfold Wo.vM;rw[aj om,fJ,hx];rfl
   exact⟨e,by unfold Wo.iL;rw[ak om]⟩
  obtain⟨r,q,z,_⟩:=h.up hi hx;have cn:=h.nvU hi z;have O:¬(i:Int) < 0:=by omega
  have P:¬(1:Int) < (i:Int):=by omega
  have n2:(0:Int)<=(i:Int):=by omega
  have n3:(i:Int) < 2:=by omega
  clear h E N he hx hi z;go_enter func27,ntmps27;go_wp2_with fail;go_ret;exact⟨by rw[k.out.1];rfl,D,by rw[k.out.2];exact j.out.mono om,eX.of bR⟩
 ·have k:Hid (W.vM (i:Int)=0/\W.iL (i:Int)=W.vK i):=by
   have e:W.vM (i:Int)=0:=by unfold Wo.vM;rw[aj om,fJ,hx];rfl
   exact⟨e,by unfold Wo.iL;rw[aj e,fJ]⟩
  have o:Hid (i < 2/\W.nd i=none):=⟨hi,hx⟩;obtain⟨z,⟨lv,A,y2,Q,R,S⟩,T⟩:=h.down hi hx;have p:Hid (fG w (D.yk i) (W.yb i) lv/\pV u<=lv/\lv<=9223372036854775807/\(W.yb i).B.length=64/\D.tag (D.yk i)=i+1):=⟨A,Q,R,S,T⟩;have cn:=h.nvD hi z;have c1:w.cell? ⟨D.wb,1,none⟩=some (.slice (some ⟨D.bb,0,none⟩) 2 D.bc):=(h.wb.c 1).trans rfl;have c2:w.cell? ⟨D.wb,2,none⟩=some (.slice D.rp W.ru.length D.rc):=(h.wb.c 2).trans rfl;have U:=h.bb.c i hi;have O:¬(i:Int) < 0:=by omega
  have P:¬(1:Int) < (i:Int):=by omega
  have n2:(0:Int)<=(i:Int):=by omega
  have n3:(i:Int) < 2:=by omega
  clear h E N he hx hi z A y2 Q R S T;go_enter func27,ntmps27;go_wp2_with fail;refine(acw (D.yk i) (W.yb i) lv w p.out.1).mono ?_;rintro e l ⟨rfl,A,m⟩;have G:Hid (fG l (D.yk i) (W.yb i).fF lv/\aC (D.yk i) w l):=⟨A,m⟩;have f:D.wb≠D.yk i/\D.nb≠D.yk i/\D.bb≠D.yk i:=by
   have q:=j.out.tw;have q2:=p.out.2.2.2.2;have q3:=o.out.1;exact⟨fun e=>by rw[e]at q;omega,fun e=>by rw[e]at q;omega,fun e=>by rw[e]at q;omega⟩
  have V:=m.keeps f.1 c1;have X:=m.keeps f.1 c2;have Y:=m.keeps f.1 c0;have Z:=m.keeps f.2.2 U;have dn:=m.keeps f.2.1 cn;have fn:l.frozen? ⟨D.nb,i,none⟩=false:=(sO (m.block _ j.out.nb.lt f.2.1)).trans (j.out.nb.fr i o.out.1);clear A m c0 c1 c2 U cn;have HC:Hid (Calls prog 15 #[.int .i64 i,.pointer (some ⟨D.yk i,0,none⟩),.slice D.rp W.ru.length D.rc] l.drew fun e w'=>∃r,e=.returned (.tuple #[.pointer (some ⟨r.nd,0,none⟩),.int .i64 0])/\(r.yb=D.yk i/\(∀g ∈ r.all,g=D.yk i\/w.heap.size<=g)/\∃q,bH w0 w' r (No.new i (W.yb i).fF W.ru) q (pV (u+1)) ((u+1:Nat):Int) (33 * (u+1)))/\ay [D.yk i] l.drew w'):=by
   have b1:Below w0.heap.size w0 l.drew:=(aC.below j.out.bl G.out.2 (j.out.g0 _ (by have:=p.out.2.2.2.2;omega))).drew;refine(yA (w0:=w0) i o.out.1 (D.yk i) (W.yb i).fF (pV u) D.rp D.rc W.ru ⟨lv,G.out.1.below bD,(fun e=>by cases e),p.out.2.1,p.out.2.2.1⟩ (by have:=M.out.1;unfold pV;omega) p.out.2.2.2.1 (j.out.g0 _ (by have:=p.out.2.2.2.2;omega)) b1 (j.out.ru.kept (fun f a ha=>by
    have q:=j.out.rb f a ha;exact(b1.block _ q).trans (j.out.bl.block _ q).symm)) j.out.rl j.out.rb).mono ?_
   rintro e w' ⟨hq,hc⟩;rcases hq with⟨n,hn,hn2,_⟩ | ⟨_,r,he,hy,hg,nd⟩
   ·exact absurd (hn2.trans (M.out.2 i rfl o.out.1 o.out.2).pu) hn
   ·have hl:pV u - 20=pV (u+1):=by unfold pV;omega
    have I:=G.out.2.size;refine⟨r,he,⟨hy,fun g J=>(hg g J).imp id (fun e=>dL I e),⟨(i:Int),((newest (W.yb i).fF.B).e:Int),0,false⟩,?_⟩,hc⟩;obtain⟨K,a,b,c,d⟩:=nd.yb;exact {nd with yb:=⟨K,a,b,by omega,d⟩,sm:=nd.sm.mono om,vs:=nd.vs.more om}
  go_wp2_with fail;have H:l.drew.cell? ⟨D.wb,1,none⟩=some (.slice (some ⟨D.bb,0,none⟩) 2 D.bc)/\l.drew.cell? ⟨D.bb,i,none⟩=some (.pointer (some ⟨D.yk i,0,none⟩))/\l.drew.cell? ⟨D.wb,2,none⟩=some (.slice D.rp W.ru.length D.rc):=⟨V,Z,X⟩;have y:Hid (¬D.wb ∈ [D.yk i]/\¬D.bb ∈ [D.yk i]/\¬D.nb ∈ [D.yk i]):=⟨fun C=>f.1 (by simpa using C),fun C=>f.2.2 (by simpa using C),fun C=>f.2.1 (by simpa using C)⟩;go_region_held3 (fun w'=>w'.cell? ⟨D.wb,1,none⟩=some (.slice (some ⟨D.bb,0,none⟩) 2 D.bc)/\w'.cell? ⟨D.bb,i,none⟩=some (.pointer (some ⟨D.yk i,0,none⟩))/\w'.cell? ⟨D.wb,2,none⟩=some (.slice D.rp W.ru.length D.rc))
   (first | assumption | exact⟨s.out.keeps y.out.1 H.1,s.out.keeps y.out.2.1 H.2.1,s.out.keeps y.out.1 H.2.2⟩)
   (first | (go_at_call 15;refine HC.out.mono ?_;rintro e w2 ⟨r,rfl,k2,c2⟩;have L:Hid (r.yb=D.yk i/\(∀g ∈ r.all,g=D.yk i\/w.heap.size<=g)/\∃q,bH w0 w2 r (No.new i (W.yb i).fF W.ru) q (pV (u+1)) ((u+1:Nat):Int) (33 * (u+1))):=k2;have s:Hid (ay [D.yk i] l.drew w2):=c2;clear k2 c2))
  have e0:=s.out.keeps (a:=⟨D.wb,0,none⟩) y.out.1 Y;have en:=s.out.keeps (a:=⟨D.nb,i,none⟩) y.out.2.2 dn;have Zg:w2.frozen? ⟨D.nb,i,none⟩=false:=(sO (s.out.block _ (eF dn) y.out.2.2)).trans fn;clear H Y V X Z dn fn f;go_wp2_with fail;go_ret;obtain⟨q,nd⟩:=L.out.2.2;have cc:ay [D.yk i] w w2:=((ay.one G.out.2 sM).trans (ay.of bD)).trans s.out;obtain⟨F,k1,k2⟩:=j.out.rise o.out.1 o.out.2 L.out.1 L.out.2.1 nd cc rfl;exact⟨by rw[k.out.1];rfl,F,by rw[k.out.2];exact k1,k2⟩
 ·have k:Hid (W.vM n=2/\W.iL n=W):=by
   have e:W.vM n=2:=by unfold Wo.vM;rw[ak hn]
   exact⟨e,by unfold Wo.iL;rw[ak om]⟩
  clear h E N he c0;by_cases O:n < 0
  ·clear hn;go_enter func27,ntmps27;go_wp2_with fail;go_ret;exact⟨by rw[k.out.1];rfl,D,by rw[k.out.2];exact j.out.mono om,eX.of bR⟩
  ·have P:(1:Int) < n:=by omega
   clear hn;go_enter func27,ntmps27;go_wp2_with fail;go_ret;exact⟨by rw[k.out.1];rfl,D,by rw[k.out.2];exact j.out.mono om,eX.of bR⟩
section
variable {w0 w w':World} {db q:Nat} {V:Wo} {v v':Value} {G A:List ByteArray}
theorem aaY (h:Dv w0 w db V q v v' G A) (n:Int) (m:Nat) (f:m<=100000) (p:q+m<=90000):Calls prog 21 #[.pointer (some (db,0)),n,m] w fun e w'=>e=.returned (.int .i64 ((wt n m V).1:Nat))/\Dv w0 w' db (jh 0 n m aU V).2 (q+cst 0 m) v v' G A :=
 h.call 0 n m aU (by show q+(m:Int).toNat<=_;omega) fun D u d s j ok le=>by
  subst j;refine(VX d ⟨ok.i,ok.r,le⟩ m f om om n).mono ?_;rintro e w' ⟨k,a,l,o⟩;exact⟨k,a,u+m,by show cZ w0 w' a (wt n (m:Int).toNat V).2 (u+m);rw[fJ];exact l,by show u+m<=u+(m:Int).toNat;omega,o⟩
theorem afD (h:Dv w0 w db V q v v' G A) (n m:Int) (a:m<=9223372036854775807) (l:q<=80000):Calls prog 22 #[.pointer (some (db,0)),n,m] w fun e w'=>e=.returned (.int .i64 (V.Ob n m:Nat))/\Dv w0 w' db (jh 1 n m aU V).2 (q+1) v v' G A :=
 h.call 1 n m aU (by show q+1<=_;omega) fun D u d o f ok le=>by
  subst f;exact(aaD d n m a).mono fun e w' ⟨i,j,k⟩=>⟨i,D,u,j,Fb _ _,k⟩
theorem agL (h:Dv w0 w db V q v v' G A) (m:Int) (o:q<=80000):Calls prog 23 #[.pointer (some (db,0)),m] w fun e w'=>e=.returned (.int .i64 (V.pK m:Nat))/\Dv w0 w' db (jh 2 0 m aU V).2 (q+1) v v' G A :=
 h.call 2 0 m aU (by show q+1<=_;omega) fun D u d p a ok le=>by
  subst a;exact(MO d le.l.adz le.l.agF m).mono fun e w' ⟨f,i,j,k⟩=>⟨f,i,u,j,Fb _ _,k⟩
theorem adP (h:Dv w0 w db V q v v' G A) (m:Int) (l:q<=80000):Calls prog 24 #[.pointer (some (db,0)),m] w fun e w'=>e=.returned (.int .i64 (V.pK m:Nat))/\Dv w0 w' db (jh 3 0 m aU V).2 (q+1) v v' G A :=
 h.call 3 0 m aU (by show q+1<=_;omega) fun D u d o a ok le=>by
  subst a;exact(Vy d m).mono fun e w' ⟨f,i,j,k⟩=>⟨f,i,u,j,Fb _ _,k⟩
theorem aaZ (h:Dv w0 w db V q v v' G A) (m:Int) (l:q<=80000):Calls prog 25 #[.pointer (some (db,0)),m] w fun e w'=>e=.returned (.int .i64 (V.yj m:Nat))/\Dv w0 w' db (jh 4 0 m aU V).2 (q+1) v v' G A :=
 h.call 4 0 m aU (by show q+1<=_;omega) fun D u d o a ok le=>by
  subst a;exact(Qq d m).mono fun e w' ⟨f,i,j,k⟩=>⟨f,i,u,j,Fb _ _,k⟩
theorem adQ (h:Dv w0 w db V q v v' G A) (n:Int) (l:q<=80000):Calls prog 26 #[.pointer (some (db,0)),n] w fun e w'=>e=.returned (.int .i64 (V.jW n:Nat))/\Dv w0 w' db (jh 5 n 0 aU V).2 (q+1) v v' G A :=
 h.call 5 n 0 aU (by show q+1<=_;omega) fun D u d m a ok le=>by
  subst a;exact(Vs d n).mono fun e w' ⟨f,i,j,k⟩=>⟨f,i,u,j,Fb _ _,k⟩
theorem agM (h:Dv w0 w db V q v v' G A) (n:Int) (p:q<=80000):Calls prog 27 #[.pointer (some (db,0)),n] w fun e w'=>e=.returned (.int .i64 (V.vM n:Nat))/\Dv w0 w' db (jh 6 n 0 aU V).2 (q+1) v v' G A :=
 h.call 6 n 0 aU (by show q+1<=_;omega) fun D u d s f ok le=>by
  subst f;exact(adO d om n fun i e a j=>(ok.i.dn i a j).GR om a ok.r).mono fun e w' ⟨k,l,m,o⟩=>⟨k,l,u+1,m,bJ _,o⟩
theorem agN (h:Dv w0 w db V q v v' G A) (p:Pk) (k:q<=80000):Calls prog 28 #[.pointer (some (db,0)),p.v,.bool true] w fun e w'=>e=.returned (.tuple #[(V.eU p).v,.int .i64 (V.oh p:Nat)])/\Dv w0 w' db (jh 7 0 0 p V).2 (q+1) v v' G A :=
 h.call 7 0 0 p (by show q+1<=_;omega) fun D u d m a ok le=>by
  subst a;exact(VA d le.l.adz om p).mono fun e w' ⟨f,i,j⟩=>⟨f,D,u+1,i,bJ _,j⟩
theorem afE (h:Dv w0 w db V q v v' G A) (p:Pk) (k:q<=80000):Calls prog 28 #[.pointer (some (db,0)),p.v,.bool false] w fun e w'=>e=.returned (.tuple #[(V.fB p).v,.int .i64 (V.nR p:Nat)])/\Dv w0 w' db (jh 8 0 0 p V).2 (q+1) v v' G A :=
 h.call 8 0 0 p (by show q+1<=_;omega) fun D u d m a ok le=>by
  subst a;exact(Qp d le.l.adz om p).mono fun e w' ⟨f,i,j⟩=>⟨f,D,u+1,i,bJ _,j⟩
end
abbrev erS:Array Value:=#[.string ⟨#[116,101,120,116]⟩,.string ⟨#[98,111,117,110,100]⟩,.string ⟨#[115,104,97,112,101]⟩,.string ⟨#[110,111,110,101]⟩,.string ⟨#[101,120,105,115,116]⟩,.string ⟨#[102,117,108,108]⟩,.string ⟨#[111,102,102]⟩,.string ⟨#[100,101,110,121]⟩,.string ⟨#[115,116,97,116,101]⟩,.string ⟨#[111,108,100]⟩,.string ⟨#[104,101,108,100]⟩]
theorem errText_any (w:World) (i:Nat) (a:i < 11):Calls prog 29 #[.int .i64 ((i+1:Nat):Int)] w fun e w'=>e=.returned (.string (etx i))/\Below w w w':=by
 have f:Hid (Below w w (w.alloc (.cells erS 9))):=aB _ _;match i,a with
 | 0,_ | 1,_ | 2,_ | 3,_ | 4,_ | 5,_ | 6,_ | 7,_ | 8,_ | 9,_ | 10,_ =>
  go_enter func29,ntmps29;go_wp2_with fail;go_ret;exact⟨rfl,f.out⟩
theorem xk (w:World) (i:Nat) (a:i<=11) (s:ByteArray):Calls prog 20 #[i,.string s] w fun e w'=>e=.returned (.string (dQ (s,i)))/\Below w w w':=by
 cases i with
 | zero =>
  go_enter func20,ntmps20;go_wp2_with fail;go_ret;exact⟨rfl,aH _ _⟩
 | succ i =>
  have f:(0:Int) < ((i+1:Nat):Int):=by omega
  have H:=errText_any w i om;generalize ((i+1:Nat):Int)=n at *;go_enter func20,ntmps20;go_wp2_with fail;refine H.mono ?_;rintro e w2 ⟨rfl,b⟩;go_wp2_with fail;go_ret;exact⟨rfl,b⟩
def fmS:Nat->ByteArray
 | 0=>⟨#[]⟩
 | 1=>⟨#[115]⟩
 | 2=>⟨#[110]⟩
 | 3=>⟨#[115,110]⟩
 | _=>⟨#[112]⟩
theorem bK {x:ByteArray} {l:List UInt8} (h:x.toList=l):x=⟨l.toArray⟩:=by
 rw[af5]at h;apply jB;rw[<- h]
def fmO (x:ByteArray):ByteArray:=match lW x with | some k=>fmS (kC k) | none=>⟨#[]⟩
theorem Np (x:ByteArray) (w:World) (h:lW x=none):Calls prog 16 #[.string x] w fun e w'=>e=.returned (.tuple #[.string ⟨#[]⟩,.bool false])/\w'=w:=by
 have a:∀k,k < 18->x≠ky k:=fun k f e=>by rw[e,Jp f]at h;cases h
 have u:(x.toList==[116,105,99,107])=false:=dG.2 (fun e=>a 0 om (bK e));have y:(x.toList==[99,117,116])=false:=dG.2 (fun e=>a 1 om (bK e));have z:(x.toList==[103,111])=false:=dG.2 (fun e=>a 2 om (bK e));have A:(x.toList==[108,111,115,101])=false:=dG.2 (fun e=>a 3 om (bK e));have B:(x.toList==[116,119,105,99,101])=false:=dG.2 (fun e=>a 4 om (bK e));have C:(x.toList==[100,111,119,110])=false:=dG.2 (fun e=>a 5 om (bK e));have D:(x.toList==[117,112])=false:=dG.2 (fun e=>a 6 om (bK e));have E:(x.toList==[105,110,115,105,100,101])=false:=dG.2 (fun e=>a 7 om (bK e));have F:(x.toList==[111,117,116,115,105,100,101])=false:=dG.2 (fun e=>a 8 om (bK e));have G:(x.toList==[97,108,108])=false:=dG.2 (fun e=>a 9 om (bK e));have i:(x.toList==[102,108,121])=false:=dG.2 (fun e=>a 10 om (bK e));have j:(x.toList==[115,119,105,116,99,104])=false:=dG.2 (fun e=>a 11 om (bK e));have l:(x.toList==[101,118,101,110,116,115])=false:=dG.2 (fun e=>a 12 om (bK e));have m:(x.toList==[97,99,116,105,118,101])=false:=dG.2 (fun e=>a 13 om (bK e));have o:(x.toList==[102,108,111,119,115])=false:=dG.2 (fun e=>a 14 om (bK e));have p:(x.toList==[109,105,114,114,111,114])=false:=dG.2 (fun e=>a 15 om (bK e));have q:(x.toList==[101,112,111,99,104])=false:=dG.2 (fun e=>a 16 om (bK e));have s:(x.toList==[108,105,102,101])=false:=dG.2 (fun e=>a 17 om (bK e));clear h a;go_enter func16,ntmps16;go_wp2_with fail;go_ret2;exact⟨rfl,rfl⟩
theorem Nq (k:Nat) (a:k < 18) (w:World):Calls prog 16 #[.string (ky k)] w fun e w'=>e=.returned (.tuple #[.string (fmS (kC k)),.bool true])/\w'=w:=by
 have h:k=0\/k=1\/k=2\/k=3\/k=4\/k=5\/k=6\/k=7\/k=8\/k=9\/k=10\/k=11\/k=12\/k=13\/k=14\/k=15\/k=16\/k=17:=by omega
 clear a;rcases h with rfl | rfl | rfl | rfl | rfl | rfl | rfl | rfl | rfl | rfl | rfl | rfl | rfl | rfl | rfl | rfl | rfl | rfl;all_goals
  simp only[ky,kC,fmS];go_enter func16,ntmps16;go_wp2_with fail;go_ret2;exact⟨rfl,rfl⟩
theorem kP (x:ByteArray) (w:World):Calls prog 16 #[.string x] w fun e w'=>e=.returned (.tuple #[.string (fmO x),.bool (lW x).isSome])/\w'=w:=by
 unfold fmO
 cases h:lW x with
 | none=>exact Np x w h
 | some k =>
  obtain⟨a,rfl⟩:=mG h;exact Nq k a w
end Go.Proofs.YtnogmjekhjldcaaGreatDoor
