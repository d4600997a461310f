/-
  What the claimed theorem reaches, part Q37.
-/
import Derived.Test.YtnogmjekhjldcaaGreatDoorQ36
namespace Go.Proofs.YtnogmjekhjldcaaGreatDoor
open Go.RowKit Go.Proofs.Tryz
set_option maxRecDepth 100000
set_option maxHeartbeats 8000000
theorem Dv.le {w0 w:World} {a q:Nat} {V:Wo} {v v':Value} {G A:List ByteArray} (h:Dv w0 w a V q v v' G A):LE V:=by
 obtain⟨D,u,d,r⟩:=h;exact r.2.2.2
theorem Nz {E:Nat} {P:Pk} (h:E=0->sK P.pr P.a1 P.p1 P.a2 P.p2 P.fl):(E=0->dQ (SV E P)=⟨(iT P.pr P.a1 P.p1 P.a2 P.p2 P.fl).toArray⟩)/\∀i,E=i+1->dQ (SV E P)=etx i:=by
 refine⟨fun e=>?_,fun i e=>?_⟩
 ·unfold SV pkT;rw[aj e,aj (jI.2 (h e))];rfl
 ·subst e;rfl
theorem sK.i6 {p:Pk} (h:sK p.pr p.a1 p.p1 p.a2 p.p2 p.fl):iR p.a1/\iR p.p1/\iR p.a2/\iR p.p2/\iR p.fl:=by
 obtain⟨f,a,e,i,j⟩:=h;unfold jc at a e;unfold iR;omega
theorem adV (W:Wo) (p:Pk):W.oh p<=11:=by
 have h:=zN 7 0 0 p W;by_cases e:W.oh p=0
 ·omega
 ·have a:(SV (W.oh p) (W.eU p)).2<=11:=h;unfold SV at a;rw[ak e]at a;exact a
theorem adW (W:Wo) (p:Pk):W.nR p<=11:=by
 have h:=zN 8 0 0 p W;by_cases e:W.nR p=0
 ·omega
 ·have a:(SV (W.nR p) (W.fB p)).2<=11:=h;unfold SV at a;rw[ak e]at a;exact a
theorem abe {w0 w:World} {a q:Nat} {V:Wo} {v v':Value} {G A:List ByteArray} (h:Dv w0 w a V q v v' G A) (k:Nat) (x:k=7\/k=8) (z:q<=80000) (nv:Value) (p:Pk) :
  Calls prog 8 #[.pointer (some (a,0)),sG (ky k) nv p] w fun e w'=>e=.returned (.string (dQ (jh k 0 0 p V).1))/\Dv w0 w' a (jh k 0 0 p V).2 (q+1) v v' G A:=by
 have o:Hid (Below w w (w.alloc (kF (ky k) nv p))):=aB _ _;have j:Hid (Dv w0 (w.alloc (kF (ky k) nv p)) a V q v v' G A):=h.below o;have L:=h.le.e;clear h;unfold kF at o j;unfold sG;obtain⟨E,P,B,l,K⟩:∃(E:Nat) (P:Pk),Hid (Calls prog 28 #[.pointer (some (a,0)),p.v,.bool (k==7)] (w.alloc (.cells #[.string (ky k),nv,p.pr,p.a1,p.p1,p.a2,p.p2,p.fl] 37)) fun e w'=>e=.returned (.tuple #[P.v,.int .i64 (E:Nat)])/\Dv w0 w' a (jh k 0 0 p V).2 (q+1) v v' G A)/\Hid ((E=0->sK P.pr P.a1 P.p1 P.a2 P.p2 P.fl)/\(E=0->dQ (jh k 0 0 p V).1=⟨(iT P.pr P.a1 P.p1 P.a2 P.p2 P.fl).toArray⟩)/\∀i,E=i+1->dQ (jh k 0 0 p V).1=etx i)/\E<=11:=by
  rcases x with rfl | rfl
  ·exact⟨V.oh p,V.eU p,agN j p z,⟨fun e=>L.eU e,Nz fun e=>L.eU e⟩,adV V p⟩
  ·exact⟨V.nR p,V.fB p,afE j p z,⟨fun e=>L.fB e,Nz fun e=>L.fB e⟩,adW V p⟩
 clear L o j;generalize dQ (jh k 0 0 p V).1=T at *;generalize (jh k 0 0 p V).2=V' at *;rcases x with rfl | rfl;all_goals
  simp only[ky]at *;go_enter func8,ntmps8;go_wp2_with fail;refine B.mono ?_;rintro e w2 ⟨rfl,C⟩;have D:Hid (Dv w0 w2 a V' (q+1) v v' G A):=C;clear C B
  cases E with
  | zero =>
   have ok:=l.1 rfl;obtain rfl:=l.2.1 rfl;have m:Hid (∀u:World,Calls prog 17 #[P.v] u fun e w'=>e=.returned (.string ⟨(iT P.pr P.a1 P.p1 P.a2 P.p2 P.fl).toArray⟩)/\Below u u w'):=fun u=>(H9 _ _ _ _ _ _ ok.i6.1 ok.i6.2.1 ok.i6.2.2.1 ok.i6.2.2.2.1 ok.i6.2.2.2.2 u).mono fun e w' ⟨⟨y,F,H⟩,I⟩=>⟨by rw[F,H.2 ok],I⟩;clear l ok;unfold Pk.v at m ⊢;go_wp2_with fail;refine(m _).mono ?_;rintro e J ⟨rfl,f⟩;have s:=(D.below (aB _ _)).below f;clear f;go_wp2_with fail;go_ret;exact⟨rfl,s⟩
  | succ i =>
   obtain rfl:=l.2.2 i rfl;have m:Hid (∀u,_):=fun u=>errText_any u i om;have M:(0:Int) < ((i+1:Nat):Int):=by omega
   generalize ((i+1:Nat):Int)=ii at *;unfold Pk.v;go_wp2_with fail;refine(m _).mono ?_;rintro e J ⟨rfl,f⟩;have s:=(D.below (aB _ _)).below f;clear f;go_wp2_with fail;go_ret;exact⟨rfl,s⟩
section
variable {w0 w:World} {V:Wo} {db q:Nat} {v v':Value} {G A:List ByteArray}
theorem cZ.mem {D:RK} {u:Nat} (h:cZ w0 w D V u):w.cell? (D.wb,0)=some (.slice (some (D.nb,0)) 2 D.nc)/\(∃p c,w.cell? (D.wb,3)=some (.slice p V.fl.length c))/\w.cell? (D.wb,4)=V.to/\w.cell? (D.wb,5)=V.he/\∃p c,w.cell? (D.wb,6)=some (.slice p V.ev.length c)/\RdE w p V.ev:=by
 have a:∀i,_:=h.wb.c;refine⟨a 0,?_,a 4,a 5,?_⟩
 ·have c3:w.cell? (D.wb,3)=some D.lv:=a 3;rcases aJ h.fl.own with⟨e,e0⟩ | ⟨g,c,e,_⟩
  ·exact⟨none,0,by rw[c3,e,e0]⟩
  ·exact⟨_,_,by rw[c3,e]⟩
 ·have c6:w.cell? (D.wb,6)=some D.ev:=a 6;rcases aJ h.ev.own with⟨e,e0⟩ | ⟨g,c,e,_⟩
  ·refine⟨none,0,by rw[c6,e,e0],fun j x f=>?_⟩;rw[List.length_eq_zero_iff.1 e0]at f;simp at f
  ·refine⟨_,_,by rw[c6,e],fun j x f=>⟨g,rfl,?_,?_⟩⟩
   ·have:=h.ev.own.cells (g:=g) (by rw[e];rfl) (j * 2) _ (yw _ j x f).1;rw[qo,fE]at this;exact this
   ·have:=h.ev.own.cells (g:=g) (by rw[e];rfl) (j * 2+1) _ (yw _ j x f).2;rw[qo,fE]at this;exact this
theorem xq (n:Int) (a:0<=n) (f:n<=1000000) (u:World):Calls prog 19 #[n] u fun e w'=>e=.returned (.string (FT n))/\Below u u w':=jP n a om u
theorem S9 {n:Int} (a:0<=n) (e:n<=1000000):(FT n).size<=7:=by
 show(Lib.itoa n).toArray.size<=7;rw[Fa];exact eu a om
theorem adX (h:Dv w0 w db V q v v' G A) (nv:Value) (p:Pk) :
  Calls prog 8 #[.pointer (some (db,0)),sG (ky 10) nv p] w fun e w'=>e=.returned (.string (dQ (jh 10 0 0 p V).1))/\Dv w0 w' db V q v v' G A:=by
 have f:Hid (Below w w (w.alloc (kF (ky 10) nv p))):=aB _ _;have a:Hid (Dv w0 (w.alloc (kF (ky 10) nv p)) db V q v v' G A):=h.below f;obtain⟨D,u,d,l,rfl,_⟩:=a.out;obtain⟨_,⟨m,o,c3⟩,_⟩:=d.d.mem;have j:Hid (∀u:World,_):=fun u=>xq V.fl.length om (by have:=d.d.fl.le;omega) u;clear d h;unfold kF at f a c3;unfold sG;simp only[ky]at *;go_enter func8,ntmps8;go_wp2_with fail;refine(j _).mono ?_;rintro e w2 ⟨rfl,i⟩;have k:=a.below i;clear i;go_wp2_with fail;go_ret;exact⟨rfl,k⟩
theorem afM (h:Dv w0 w db V q v v' G A) (z:q<=80000) (nv:Value) (p:Pk) :
  Calls prog 8 #[.pointer (some (db,0)),sG (ky 12) nv p] w fun e w'=>e=.returned (.string (dQ (jh 12 0 0 p V).1))/\Dv w0 w' db V q v v' G A:=by
 have i:Hid (Below w w (w.alloc (kF (ky 12) nv p))):=aB _ _;have a:Hid (Dv w0 (w.alloc (kF (ky 12) nv p)) db V q v v' G A):=h.below i;obtain⟨D,u,d,B,rfl,ok,_⟩:=a.out;obtain⟨_,_,_,_,m,o,c6,j⟩:=d.d.mem;have f:=Nl m o V.ev _ j (fun e x=>by have:=ok.s.e e x;unfold Zo at this;omega) d.d.ev.le;have k:Hid ((if V.ev=[] then noT else ⟨(QB V.ev).toArray⟩)=dQ (jh 12 0 0 p V).1):=by show _=evT V;unfold evT;rfl
 rw[k.out]at f;clear d h j k;unfold kF at i a c6 f;unfold sG;simp only[ky]at *;go_enter func8,ntmps8;go_wp2_with fail;refine f.mono ?_;rintro e w2 ⟨rfl,l⟩;have y:=a.below l;clear l;go_wp2_with fail;go_ret;exact⟨rfl,y⟩
theorem adY {W e:World} {g i:Nat} {a b:Value} (h:W.cell? (g,i)=some a/\W.cell? (g,i+1)=some b/\Dv w0 W db V q v v' G A) (f:Below W W e):e.cell? (g,i)=some a/\e.cell? (g,i+1)=some b/\Dv w0 e db V q v v' G A:=⟨tk f h.1,tk f h.2.1,h.2.2.below f⟩
theorem afN (h:Dv w0 w db V q v v' G A) (H:q<=80000) (nv:Value) (p:Pk) :
  Calls Tryz.prog 8 #[.pointer (some ⟨db,0,none⟩),sG (ky 11) nv p] w fun e w'=>e=.returned (.string (dQ (jh 11 0 0 p V).1))/\Dv w0 w' db V q v v' G A:=by
 have k:Hid (Below w.heap.size w (w.alloc (kF (ky 11) nv p))):=aB _ _
 have f:Hid (Dv w0 (w.alloc (kF (ky 11) nv p)) db V q v v' G A):=h.below k.out
 obtain⟨D,u,d,I,rfl,ok,_⟩:=f.out
 obtain⟨_,_,c4,c5,_⟩:=d.d.mem
 have l:=ok.s.s
 have m:Hid (dQ (jh 11 0 0 p V).1=if V.he=0 then noT else Jj V.hn V.he):=rfl
 have a:V.to=if V.he=0 then -1 else V.hn:=rfl
 unfold Zo at l
 clear d h ok
 unfold kF at k f c4 c5
 unfold sG
 simp only[ky]at *
 rw[m.out]
 by_cases j:V.he=0
 ·rw[aj j]at a ⊢
  rw[a]at c4
  clear a
  go_enter Tryz.func8,Tryz.ntmps8
  go_wp2_with fail
  go_ret
  exact⟨rfl,f.out⟩
 ·rw[ak j]at a ⊢
  rw[a]at c4
  clear a
  have x:Hid (∀u:World,_):=fun u=>xq V.hn (by omega) (by omega) u
  have y:Hid (∀u:World,_):=fun u=>xq V.he (by omega) (by omega) u
  have J:¬V.hn < 0:=by omega
  have K:=S9 (n:=V.hn) (by omega) (by omega)
  have L:=S9 (n:=V.he) (by omega) (by omega)
  have z:Hid (Jj V.hn V.he=FT V.hn++⟨#[32]⟩++FT V.he):=by apply jB;simp[Jj,FT,ByteArray.data_append]
  rw[z.out]
  clear l j m
  generalize FT V.hn=T1 at *
  generalize FT V.he=T2 at *
  have M:¬9223372036854775807 < T1.size+1:=by omega
  have N:¬9223372036854775807 < T1.size+1+T2.size:=by omega
  go_enter Tryz.func8,Tryz.ntmps8
  go_wp2_with fail
  have i:=(aH (w.alloc (.cells #[.string ⟨#[115,119,105,116,99,104]⟩,nv,.int .i64 p.pr,.int .i64 p.a1,.int .i64 p.p1,.int .i64 p.a2,.int .i64 p.p2,.int .i64 p.fl] 37)).heap.size (w.alloc (.cells #[.string ⟨#[115,119,105,116,99,104]⟩,nv,.int .i64 p.pr,.int .i64 p.a1,.int .i64 p.p1,.int .i64 p.a2,.int .i64 p.p2,.int .i64 p.fl] 37))).drew
  have s4:=tk i c4
  have s5:=tk i c5
  have B:=f.out.below i
  clear i
  go_region_held3 (fun w'=>w'.cell? ⟨D.wb,4,none⟩=some (.int .i64 V.hn)/\w'.cell? ⟨D.wb,4+1,none⟩=some (.int .i64 V.he)/\Dv w0 w' D.wb V q v v' G A)
   (first | assumption | exact⟨s4,s5,B⟩ | exact adY (by assumption) (by assumption))
   (first | (go_at_call 19;with_reducible refine(x.out _).mono ?_;rintro e C ⟨rfl,E⟩) | (go_at_call 19;with_reducible refine(y.out _).mono ?_;rintro e C ⟨rfl,E⟩))
  rename_i o
  have F:=o.2.2
  clear o
  go_wp2_with fail
  go_ret
  exact⟨rfl,F⟩
end
section
variable {w0 w:World} {V:Wo}
structure Upm (w:World) (g:Nat) (x:No) (ce ro tb mi tg mg tc mc:Nat):Prop where
 b2:w.cell? (g,2)=some (.pointer (some (ce,0)))
 b3:w.cell? (g,3)=some (.pointer (some (ro,0)))
 b4:w.cell? (g,4)=some (.pointer (some (tb,0)))
 b6:w.cell? (g,6)=some (.pointer (some (mi,0)))
 ep:w.cell? (ro,1)=x.ro.ep
 ac:w.cell? (ro,3)=some (.bool x.ro.ac)
 li:w.cell? (ce,3)=x.life
 t1:w.cell? (tb,1)=some (.slice (some (tg,0)) 32 tc)
 m1:w.cell? (mi,1)=some (.slice (some (mg,0)) 32 mc)
 t:jl w tg x.T
 m:jl w mg x.mt
theorem cZ.upm {D:RK} {u i:Nat} {x:No} (h:cZ w0 w D V u) (a:i < 2) (e:V.nd i=some x):∃g ce ro tb mi tg mg tc mc,w.cell? (D.nb,i)=some (.pointer (some ⟨g,0,none⟩))/\Upm w g x ce ro tb mi tg mg tc mc:=by
 have f:=h.nb.c i a;rcases h.s i a with⟨r,y,q,e1,e2,nd,_⟩ | ⟨lv,e1,e2,_⟩
 ·rw[e]at e2
  cases e2
  refine⟨r.nd,r.ce,r.ro,r.tb,r.mi,r.tg,r.mg,r.tc,r.mc,by rw[f];simp[RK.nv,e1],nd.nd.b2,nd.nd.b3,nd.nd.b4,nd.nd.b6,?_,?_,?_,nd.tb.c1,nd.mi.c1,nd.tb.sl,nd.mi.sl⟩
  ·rw[nd.ro.c1,nd.sm.ep]
  ·rw[nd.ro.c3,nd.sm.ac]
  ·rw[nd.ce.c3,nd.lf]
 ·rw[e]at e2;cases e2
theorem cZ.dnm {D:RK} {u i:Nat} (h:cZ w0 w D V u) (a:i < 2) (e:V.nd i=none):w.cell? (D.nb,i)=some (.pointer none):=by
 have f:=h.nb.c i a;rcases h.s i a with⟨r,y,q,e1,e2,_⟩ | ⟨lv,e1,e2,_⟩
 ·rw[e]at e2;cases e2
 ·rw[f];simp[RK.nv,e1]
theorem abf {i q:Nat} {v v':Value} {G A:List ByteArray} (h:Dv w0 w i V q v v' G A) (k:Nat) (s:k=13\/k=14\/k=15\/k=16\/k=17) (a:Nat) (C:a < 2) (m:V.nd a=none) (Z o c:Nat) (p:Pk) (x:w.cell? (Z,o)=a) :
  Calls prog 8 #[.pointer (some (i,0)),sG (ky k) (.slice (some (Z,o)) 1 c) p] w fun e w'=>e=.returned (.string (dQ (jh k a 0 aU V).1))/\Dv w0 w' i V q v v' G A:=by
 have j:Hid (Below w w (w.alloc (kF (ky k) (.slice (some (Z,o)) 1 c) p))):=aB _ _;have l:Hid (Dv w0 (w.alloc (kF (ky k) (.slice (some (Z,o)) 1 c) p)) i V q v v' G A):=h.below j;obtain⟨D,u,d,H,rfl,_⟩:=l.out;have c0:=d.d.mem.1;have cn:=d.d.dnm C m;have E:=tk j x;have f:V.jW a=7:=by unfold Wo.jW;rw[aj om,fJ,m];rfl
 have y:Hid (dQ (jh k a 0 aU V).1=if k=13 then dnT else etx 6):=by
  show _=_;rcases s with rfl | rfl | rfl | rfl | rfl;all_goals simp[jh,acT,WG,dQ,f]
 have I:(0:Int)<=(a:Int):=by omega
 have J:(a:Int) < 2:=by omega
 rw[y.out];clear h d x f y m;unfold kF at j E l c0 cn;unfold sG;rcases s with rfl | rfl | rfl | rfl | rfl;all_goals
  simp only[ky]at *;go_enter func8,ntmps8;go_wp2_with fail;have z:Dv w0 _ D.wb V q v v' G A:=l.below bD;clear l j;go_region;go_wp2_with fail
 ·go_ret;exact⟨rfl,z⟩
 all_goals
  refine(errText_any _ 6 om).mono ?_;rintro e w2 ⟨rfl,B⟩;have F:=z.below B;clear B;go_wp2_with fail;go_ret;exact⟨rfl,F⟩
end
theorem Ju {w:World} {b n a:Nat} {e:TypeId} {v:Value} {f:List Value} (h:w.ownsRow b e a v n f):∃p c,v=.slice p n c:=by
 rcases aJ h with⟨e1,e0⟩ | ⟨_,_,e1,_⟩
 ·exact⟨none,0,by rw[e1,e0]⟩
 ·exact⟨_,_,e1⟩
theorem afO {w0 w:World} {C q:Nat} {V:Wo} {v v':Value} {G A:List ByteArray} (h:Dv w0 w C V q v v' G A) (hq:q<=80000) (k:Nat) (Q:k=13\/k=14\/k=15\/k=16\/k=17) (a:Nat) (ha:a < 2) (x:No) (s:V.nd a=some x) (Z o c:Nat) (p:Pk) (R:w.cell? (Z,o)=a) :
  Calls prog 8 #[.pointer (some (C,0)),sG (ky k) (.slice (some (Z,o)) 1 c) p] w fun e w'=>e=.returned (.string (dQ (jh k a 0 aU V).1))/\Dv w0 w' C V q v v' G A:=by
 have E:Hid (Below w w (w.alloc (kF (ky k) (.slice (some (Z,o)) 1 c) p))):=aB _ _;have F:Hid (Dv w0 (w.alloc (kF (ky k) (.slice (some (Z,o)) 1 c) p)) C V q v v' G A):=h.below E;obtain⟨D,u,d,hu,rfl,ok,_⟩:=F.out;have c0:=d.d.mem.1;obtain⟨g,ce,ro,tb,mi,S,W,tc,mc,cn,U⟩:=d.d.upm ha s;have H:Hid (jl _ S x.T/\jl _ W x.mt):=⟨U.t,U.m⟩;have d1:=tk E R;have XI:=ok.i.up _ _ s;have J:=XI.ep;have K:=XI.eq;have L:=XI.li;have hl:=XI.y.l;have z:V.jW a=0:=by unfold Wo.jW;rw[aj om,fJ,s];rfl
 have X:Hid (dQ (jh k a 0 aU V).1=if k=13 then (if x.ro.ac then yeT else nuT) else if k=14 then FT (jy x.T 32).length else if k=15 then FT (jy x.mt 32).length else if k=16 then FT x.ro.ep else FT x.life):=by
  show _=_;rcases Q with rfl | rfl | rfl | rfl | rfl;all_goals simp[jh,acT,WG,dQ,z,s]
 have i0:(0:Int)<=(a:Int):=by omega
 have i1:(a:Int) < 2:=by omega
 have l1:=mO x.T 32;have l2:=mO x.mt 32;have I:Hid (∀u:World,(∀n:Nat,n<=32->Calls prog 19 #[n] u fun e w'=>e=.returned (.string (FT n))/\Below u u w')/\(Calls prog 19 #[x.ro.ep] u fun e w'=>e=.returned (.string (FT x.ro.ep))/\Below u u w')/\(Calls prog 19 #[x.life] u fun e w'=>e=.returned (.string (FT x.life))/\Below u u w')):=fun u=>⟨fun n hn=>xq n om om u,xq _ om om u,xq _ om om u⟩;obtain⟨b2,f,b4,b6,ep,ac,li,t1,m1,_,_⟩:=U;rw[X.out];clear h d R z X s XI J K L hl;unfold kF at E d1 F c0 cn b2 f b4 b6 ep ac li t1 m1 H;unfold sG;rcases Q with rfl | rfl | rfl | rfl | rfl;all_goals
  simp only[ky]at *;go_enter func8,ntmps8;go_wp2_with fail;have B:Dv w0 _ D.wb V q v v' G A:=F.below bD;have Y:Hid (jl _ S x.T/\jl _ W x.mt):=⟨H.1.below bD,H.2.below bD⟩;clear F E H;go_region
 ·cases M:x.ro.ac
  all_goals
   rw[M]at ac;go_wp2_with fail;go_ret;exact⟨rfl,B⟩
 ·go_wp2_with fail;refine(wZ _ _ _ _ Y.1).mono ?_;rintro e w2 ⟨⟨vv,rfl,N⟩,bb⟩;have O:=B.below bb;obtain⟨pp,cc,rfl⟩:=Ju N;go_wp2_with fail;refine((I _).1 _ l1).mono ?_;rintro e P ⟨rfl,f⟩;have j:=O.below f;go_wp2_with fail;go_ret;exact⟨rfl,j⟩
 ·go_wp2_with fail;refine(wZ _ _ _ _ Y.2).mono ?_;rintro e w2 ⟨⟨vv,rfl,N⟩,bb⟩;have O:=B.below bb;obtain⟨pp,cc,rfl⟩:=Ju N;go_wp2_with fail;refine((I _).1 _ l2).mono ?_;rintro e P ⟨rfl,f⟩;have j:=O.below f;go_wp2_with fail;go_ret;exact⟨rfl,j⟩
 ·go_wp2_with fail;refine(I _).2.1.mono ?_;rintro e P ⟨rfl,f⟩;have j:=B.below f;go_wp2_with fail;go_ret;exact⟨rfl,j⟩
 ·go_wp2_with fail;refine(I _).2.2.mono ?_;rintro e P ⟨rfl,f⟩;have j:=B.below f;go_wp2_with fail;go_ret;exact⟨rfl,j⟩
def flD (b:Nat) (w:World):Nat:=match w.cell? (b,3) with | some (.slice _ n _)=>n | _=>0
theorem cZ.flD {w0 w:World} {D:RK} {V:Wo} {u:Nat} (h:cZ w0 w D V u):flD D.wb w=V.fl.length:=by
 obtain⟨_,⟨p,c,e⟩,_⟩:=h.mem;unfold Go.Proofs.YtnogmjekhjldcaaGreatDoor.flD;rw[e]
theorem adZ {w0 w:World} {B q:Nat} {V:Wo} {v v':Value} {G A:List ByteArray} (h:Dv w0 w B V q v v' G A) (M:q<=80000) (nv:Value) (p:Pk) :
  Calls prog 8 #[.pointer (some (B,0)),sG (ky 9) nv p] w fun e w'=>e=.returned (.string (dQ (jh 9 0 0 aU V).1))/\Dv w0 w' B (jh 9 0 0 aU V).2 (q+1) v v' G A:=by
 have I:Hid (Below w w (w.alloc (kF (ky 9) nv p))):=aB _ _;have C:Dv w0 (w.alloc (kF (ky 9) nv p)) B V q v v' G A:=h.below I;obtain⟨D,u,d,N,rfl,ok,le⟩:=C;obtain⟨_,⟨W,X,c3⟩,_⟩:=d.d.mem;have O:=d.d.fl.le;have P:Hid (∀u:World,Calls prog 19 #[V.fl.length] u fun e w'=>e=.returned (.string (FT V.fl.length))/\Below u u w'):=fun u=>xq V.fl.length om om u;have f:Hid (Dr w0 (w.alloc (kF (ky 9) nv p)) D V u v v' G A/\u<=q/\BH q V/\LE V/\q<=80000):=⟨d,N,ok,le,M⟩;have j:Hid (∀w2 a,cZ w0 w2 a (qV V.fl.length V) u->eX D a (w.alloc (kF (ky 9) nv p)) w2->Dv w0 w2 D.wb (jh 9 0 0 aU V).2 (q+1) v v' G A):=fun w2 a Q m=>⟨a,u,d.mv Q m,by omega,m.wb,ok.jh 9 0 0 aU (by show q+1<=_;omega),le.jh ok 9 0 0 aU (by show q+1<=_;omega)⟩;clear d h ok le;unfold kF at I c3 f j;unfold sG;simp only[ky]at *;generalize k:w.alloc (.cells #[.string ⟨#[97,108,108]⟩,nv,p.pr,p.a1,p.p1,p.a2,p.p2,p.fl] 37)=w1 at *;have s:Hid (w.alloc (.cells #[.string ⟨#[97,108,108]⟩,nv,p.pr,p.a1,p.p1,p.a2,p.p2,p.fl] 37)=w1):=k;rw[<- k]at c3;clear k;go_enter func8,ntmps8;go_wp2_with fail;rw[s.out]at *;clear s c3 I;go_loopw [] (fun x=>∃(d:Nat) (a:RK),d<=V.fl.length/\cZ w0 x a (qV d V) u/\eX D a w1 x) (fun x=>Go.Proofs.YtnogmjekhjldcaaGreatDoor.flD D.wb x)
 case atStart=>exact⟨0,D,by omega,f.1.d,eX.of bR⟩
 case round =>
  obtain⟨d,a,Y,E,m⟩:=hrel;have y:Hid (cZ w0 wr a (qV d V) u/\eX D a w1 wr):=⟨E,m⟩;have R:Hid (Go.Proofs.YtnogmjekhjldcaaGreatDoor.flD D.wb wr=(qV d V).fl.length):=by show _=_;rw[<- m.wb];exact E.flD
  have C:Hid ((qV d V).fl.length=V.fl.length - d):=Ep V d;obtain⟨_,⟨Z,q5,c5⟩,_⟩:=E.mem;rw[m.wb,C.out]at c5;clear E m;by_cases S:d < V.fl.length
  ·have T:(0:Int) < ((V.fl.length - d:Nat):Int):=by omega
   go_wp2_with fail;have o:=MO y.1 (f.2.2.2.1.qV f.2.2.1.i (by have:=f.2.2.2.2;omega) f.2.2.1.r d).l.adz (f.2.2.2.1.qV f.2.2.1.i (by have:=f.2.2.2.2;omega) f.2.2.1.r d).l.agF 0;rw[y.2.wb]at o;refine o.mono ?_;clear o;rintro e F ⟨rfl,J,z,K⟩;have H:Hid (cZ w0 F J (qV (d+1) V) u/\eX D J w1 F):=⟨z,y.2.trans K⟩;clear z K;go_wp2_with fail;refine⟨⟨d+1,J,by omega,H.1,H.2⟩,?_⟩;rw[R.out,<- H.2.wb,H.1.flD,C.out,Ep];omega
  ·obtain rfl:d=V.fl.length:=by omega
   have T:¬(0:Int) < ((V.fl.length - V.fl.length:Nat):Int):=by omega
   go_wp2_with fail;refine(P _).mono ?_;rintro e F ⟨rfl,L⟩;have U:=j.out F a (y.1.below L) (y.2.then L);go_wp2_with fail;go_ret;exact⟨rfl,U⟩
end Go.Proofs.YtnogmjekhjldcaaGreatDoor
