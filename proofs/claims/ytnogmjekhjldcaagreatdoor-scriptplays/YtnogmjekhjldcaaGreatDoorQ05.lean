/-
  What the claimed theorem reaches, part Q05.
-/
import Derived.Test.YtnogmjekhjldcaaGreatDoorQ04
import Derived.Lib.BufferWrite
namespace Go.Proofs.YtnogmjekhjldcaaGreatDoor
open Go.RowKit Go.Proofs.Tryz
set_option maxRecDepth 100000
set_option maxHeartbeats 8000000
section
variable {w:World} {c b:Nat} {off:Bool}
theorem Xy (b k:Nat) (a:k < 2) (s:By) (w:World) (S:fK w b s) :
  Calls prog 303 #[.pointer (some (b,0)),k] w fun e w'=>(∃x:Nm,e=.returned (.tuple #[CS x,.bool (bC s.B k)])/\(bC s.B k=true->x=aX s.B k))/\Below w w w':=by
 exact aeR b k (20 * k) (20 * k+16) (64 - 20 * k) k om s w S
theorem Iy (B:List UInt8) (k:Nat):aW B (k+1)=if bC B k=true/\(aW B k).n < (aX B k).n then aX B k else aW B k:=rfl
theorem OC (b:Nat) (s:By) (w:World) (S:fK w b s) :
  Calls prog 287 #[.pointer (some (b,0))] w fun e w'=>e=.returned (CS (newest s.B))/\Below w w w':=by
 have L:=jH S;clear S;go_enter func287,ntmps287;go_wp2_with fail;have F:Hid (iy ((w.alloc (.cells #[.int .i64 0,.int .i64 0,.int .i64 0] 325)).alloc (.cells #[.int .i64 0,.int .i64 0,.int .i64 0] 325)) (w.heap.size+1) 0 0 0):=Xc w _ _;have G:Hid (iy ((w.alloc (.cells #[.int .i64 0,.int .i64 0,.int .i64 0] 325)).alloc (.cells #[.int .i64 0,.int .i64 0,.int .i64 0] 325)) w 0 0 0):=by
  show iy _ _ _ _ _;unfold iy;rw[heap_alloc_old _ _ sM,dh]
 have M:Hid (Below w w ((w.alloc (.cells #[.int .i64 0,.int .i64 0,.int .i64 0] 325)).alloc (.cells #[.int .i64 0,.int .i64 0,.int .i64 0] 325))):=t2 (aB _ _) (aB _ _);generalize (w.alloc (.cells #[.int .i64 0,.int .i64 0,.int .i64 0] 325)).alloc (.cells #[.int .i64 0,.int .i64 0,.int .i64 0] 325)=w0 at *;obtain⟨Z,q⟩:∃Z,Z=w.heap.size:=⟨_,rfl⟩;have u:=jH q;rw[<- q]at F G ⊢;clear q;go_loopw [7] (fun t wr=>∃k:Nat,k<=2/\t=.int .i64 k/\iy wr (Z+1) (aW s.B k).n (aW s.B k).e (aW s.B k).l/\iy wr Z 0 0 0/\Below Z w wr) (fun t _=>2 - (intOf t).toNat)
 case atStart=>exact⟨0,by omega,rfl,F,G,by rw[u.out];exact M⟩
 case round =>
  obtain⟨k,Y,rfl,H,hr,I⟩:=hrel;have p:=jH H;have a:=jH hr;have z:=jH I;clear H hr I;by_cases A:k < 2
  ·go_wp2_with fail;refine(Xy b k A s wr (L.below (by rw[<- u.out];exact z))).mono ?_;rintro e w1 ⟨⟨x,rfl,J⟩,f⟩;have N:=jH J;have j:=jH (p.below f);have o:=jH (a.below f);have C:=jH (z.trans (f.mono (by have:=a.lt;omega)));have D:Hid (aW s.B (k+1)=if bC s.B k=true/\(aW s.B k).n < (aX s.B k).n then aX s.B k else aW s.B k):=Iy _ _;clear J f;have O:=j.lt;have P:=j.c0;have Q:=j.c1;have R:=j.c2;have nf:=fun i=>j.fr i;unfold CS;generalize hh:bC s.B k=h at *;generalize E:aW s.B k=y at *
   cases h
   ·have m:Hid (aW s.B (k+1)=y):=by show _=_;rw[D.out,ak sM]
    go_wp2_with fail;refine⟨⟨k+1,by omega,by go_num,?_,?_,?_⟩,by simp[intOf];omega⟩
    ·rw[m.out];exact j.below (aB _ _)
    ·exact o.below (aB _ _)
    ·exact C.alloc (by have:=a.lt;have:=o.lt;omega) _
   ·obtain rfl:=N.out rfl;by_cases K:y.n < (aX s.B k).n
    ·have m:Hid (aW s.B (k+1)=aX s.B k):=by show _=_;rw[D.out,aj ⟨rfl,K⟩]
     generalize aX s.B k=x at *;have T:(y.n:Int) < (x.n:Int):=by omega
     go_wp2_with fail;refine⟨⟨k+1,by omega,by go_num,?_,?_,?_⟩,by simp[intOf];omega⟩
     ·rw[m.out];exact(j.put _ _ _).below (aB _ _)
     ·exact(o.dO (((aC.set (Z+1) 0 _ _).trans (aC.set (Z+1) 1 _ _)).trans (aC.set (Z+1) 2 _ _)) om).below (aB _ _)
     ·refine(((C.setCell (by show Z<=Z+1;omega) _).setCell (by show Z<=Z+1;omega) _).setCell (by show Z<=Z+1;omega) _).alloc ?_ _;have:=a.lt;have:=o.lt;simp;omega
    ·have m:Hid (aW s.B (k+1)=y):=by show _=_;rw[D.out,ak (by simp[K])]
     generalize aX s.B k=x at *;have T:¬(y.n:Int) < (x.n:Int):=by omega
     go_wp2_with fail;refine⟨⟨k+1,by omega,by go_num,?_,?_,?_⟩,by simp[intOf];omega⟩
     ·rw[m.out];exact j.below (aB _ _)
     ·exact o.below (aB _ _)
     ·exact C.alloc (by have:=a.lt;have:=o.lt;omega) _
  ·have U:=jH ((show k=2 by omega));have V:=a.c0;have W:=a.c1;have X:=a.c2;have rf:=fun i=>a.fr i;have P:=p.c0;have Q:=p.c1;have R:=p.c2;generalize E:aW s.B k=y at *;have m:Hid (newest s.B=y):=by
    show aW s.B 2=y;rw[<- U.out];exact E
   clear E;go_wp2_with fail;refine bf (v:=CS y) (by simp[results,results287,go_sem,CS,V,W,X]) rfl ⟨by rw[m.out],?_⟩;rw[<- u.out];exact((z.setCell nL _).setCell nL _).setCell nL _
structure yL (w:World) (c b:Nat) (off:Bool):Prop where
 c0:w.cell? (c,0)=some (.pointer (some (b,0)))
 c1:w.cell? (c,1)=some (.bool off)
 f1:w.frozen? (c,1)=false
theorem yL.lt (h:yL w c b off):c < w.heap.size:=eF h.c0
theorem yL.below {w':World} (h:yL w c b off) (a:Below w w w'):yL w' c b off:=⟨tk a h.c0,tk a h.c1,by rw[a.frozen (p:=⟨c,1,none⟩) h.lt];exact h.f1⟩
theorem yL.dO {w':World} {d:Nat} (h:yL w c b off) (a:aC d w w') (e:c≠d):yL w' c b off:=⟨a.keeps e h.c0,a.keeps e h.c1,by rw[sO (w:=w) (a.block c h.lt e)];exact h.f1⟩
theorem yL.kill (h:yL w c b off) (v:Bool):yL (w.setCell (c,1) (.bool v)) c b v:=⟨by rw[lT _ _ _ _ sM];exact h.c0,BP _ _ _ (u:=.bool off) h.c1,by rw[xB];exact h.f1⟩
theorem yU (c b:Nat) (off:Bool) (s:By) (w:World) (C:yL w c b off) (S:fK w b s) :
  Calls prog 254 #[.pointer (some (c,0))] w fun e w'=>e=.returned (CS (newest s.B))/\Below w w w':=by
 have p:=jH S;have q:=jH C;clear S C;go_enter func254,ntmps254;have k:Hid (iy (w.alloc (.cells #[.int .i64 0,.int .i64 0,.int .i64 0] 325)) w 0 0 0):=dh w _;have c0:=(q.below (aB w (.cells #[.int .i64 0,.int .i64 0,.int .i64 0] 325))).c0;go_wp2_with fail;refine jM (OC b s _ (p.below (aB _ _))) fun u a=>?_;have f:=jH (k.below a);have x:Hid (Below w w u):=t2 (aB _ _) a;clear a c0 k;have l:=f.c0;have m:=f.c1;have o:=f.c2;have z:=fun i=>f.fr i;obtain⟨y,h⟩:∃y,newest s.B=y:=⟨_,rfl⟩;have A:=jH h;rw[h];clear h;unfold CS;obtain⟨Z,j⟩:∃Z,Z=w.heap.size:=⟨_,rfl⟩;rw[<- j]at l m o z ⊢;have D:=jH j;clear j;go_wp2_with fail;refine bf (v:=CS y) (by simp[results,results254,go_sem,CS,l,m,o]) rfl ⟨by rw[A.out],?_⟩;rw[D.out];exact((x.setCell nL _).setCell nL _).setCell nL _
theorem J3 (a b c:Int) (w:World):(Instr.field 325 (.agg #[a,b,c]) 1).run prog w=.ok b w/\(Instr.field 325 (.agg #[a,b,c]) 2).run prog w=.ok c w:=⟨by kernel_rfl,by kernel_rfl⟩
theorem Gj (c b:Nat) (off:Bool) (s:By) (w:World) (C:yL w c b off) (S:fK w b s) :
  Calls prog 216 #[.pointer (some (c,0))] w fun e w'=>e=.returned (.int .i64 (newest s.B).e)/\Below w w w':=by
 have f:=jH (yU c b off s w C S);clear C S;generalize newest s.B=y at *;unfold CS at f;go_enter func216,ntmps216;go_wp2_with fail;refine f.mono ?_;rintro e h ⟨rfl,a⟩;have i:=jH a;clear a;obtain⟨j,k⟩:=J3 y.n y.e y.l h;go_wp2_with fail;go_ret;exact⟨rfl,i⟩
theorem Xz (c b:Nat) (off:Bool) (s:By) (w:World) (C:yL w c b off) (S:fK w b s) :
  Calls prog 217 #[.pointer (some (c,0))] w fun e w'=>e=.returned (.int .i64 (newest s.B).l)/\Below w w w':=by
 have f:=jH (yU c b off s w C S);clear C S;generalize newest s.B=y at *;unfold CS at f;go_enter func217,ntmps217;go_wp2_with fail;refine f.mono ?_;rintro e h ⟨rfl,a⟩;have i:=jH a;clear a;obtain⟨j,k⟩:=J3 y.n y.e y.l h;go_wp2_with fail;go_ret;exact⟨rfl,i⟩
end
structure Se5 (w:World) (s:Nat->Addr):Prop where
 c1:w.cell? (0,0)=some (.iface 359 (.pointer (some (s 1))))
 c2:w.cell? (7,0)=some (.iface 359 (.pointer (some (s 2))))
 c5:w.cell? (5,0)=some (.iface 359 (.pointer (some (s 5))))
 c6:w.cell? (6,0)=some (.iface 359 (.pointer (some (s 6))))
 c9:w.cell? (15,0)=some (.iface 359 (.pointer (some (s 9))))
theorem Se5.below {w w':World} {s:Nat->Addr} (S:Se5 w s) (a:Below w w w'):Se5 w' s:=⟨tk a S.c1,tk a S.c2,tk a S.c5,tk a S.c6,tk a S.c9⟩
def zero64:List UInt8:=List.replicate 64 0
def iO:By:=⟨zero64,true,false,0⟩
theorem AA {P:Program} {f:Array Oper} {rest:List Oper} {o:Oper} {a:Act} {w:World} {Q:Exit->Act->World->Prop} (k:o.guard=none) (t:TypeId) (e:Array (Nat×Operand)) (l:o.op=.build t e)
  (cs:Array Value) (j:P.built t (e.map fun (i,x)=>(i,a.eval x)).toList=some cs) (h:wpList P f Q rest (a.put o.dst (.agg cs)) w):wpList P f Q (o::rest) a w :=
 wpList_build k t e l (by rw[j];rfl) (by rw[j];exact h)
theorem J4 : prog.built 212 [(1,.bool true)]=some (sV iO):=by kernel_rfl
theorem Iz (w:World):Calls prog 80 #[] w fun e w'=>(e=.returned (.pointer (some (w.heap.size,0)))/\fK w' w iO)/\Below w w w':=by
 obtain⟨cs,a⟩:∃cs,cs=sV iO:=⟨_,rfl⟩;have h:Hid (cs=sV iO):=a;have f : prog.built 212 [(1,.bool true)]=some cs:=by rw[a];exact J4
 have i:cs.size=67:=by rw[a];rfl
 clear a;go_enter func80,ntmps80;go_wp2_with (first | refine AA rfl 212 _ rfl cs (by simpa [Act.eval] using f) ?_)
 go_ret;refine⟨⟨rfl,?_⟩,aB _ _⟩;rw[h.out];exact⟨dh _ _,rfl⟩
theorem acr (b:Nat) (s:By) (w:World) (S:fK w b s) (h:s.on=true) :
  Calls prog 214 #[.pointer (some (b,0))] w fun e w'=>(e=.returned (.tuple #[.pointer (some (w.heap.size,0)),.nilIface])/\yL w' w b false)/\Below w w w':=by
 have a:=S.on;rw[h]at a;clear S h;go_enter func214,ntmps214;go_wp2_with fail;go_ret2;exact⟨⟨rfl,(nw _ _ _ _).trans rfl,(nw _ _ _ _).trans rfl,jk _ _ _ _ _ (dh _ _)⟩,aB _ _⟩
def nN (n:Int):Bool:=decide (0<=n) && decide (n<=1073741824)
theorem sZ (n:Int) (w:World):Calls prog 255 #[n] w fun e w'=>e=.returned (.bool (nN n))/\w'=w:=by
 by_cases h:0<=n
 ·have a:Hid (nN n=decide (n<=1073741824)):=by unfold nN;rw[gG h];exact rfl
  go_enter func255,ntmps255;go_wp2_with fail;go_ret;exact⟨by rw[a.out];rfl,rfl⟩
 ·have a:Hid (nN n=false):=by unfold nN;rw[gQ h];exact rfl
  go_enter func255,ntmps255;go_wp2_with fail;go_ret;exact⟨by rw[a.out];rfl,rfl⟩
def lX (ep li:Int):Bool:=!nN ep || !nN li
def mX (s:By) (ep li:Int):Bool:=decide (ep < (newest s.B).e) || decide (li < (newest s.B).l)
def aY (s:By) (ep li:Int):Nm:=⟨(newest s.B).n+1,ep.toNat,li.toNat⟩
def bn (off:Bool) (s:By) (ep li:Int):Nat×By×Bool :=
 if off then (7,s,true)
 else if lX ep li then (2,s,false)
 else if mX s ep li then (10,s,false)
 else if (newest s.B).n=4294967295 then (6,s,false)
 else if (dw s (aY s ep li)).2 then (0,(dw s (aY s ep li)).1,false)
 else (7,(dw s (aY s ep li)).1,true)
theorem J5 (c b:Nat) (off:Bool) (s:By) (ep li:Int) (p:Nat->Addr) (w:World) (C:yL w c b off) (S:fK w b s) (E:Se5 w p) (K:c≠b) (Z : 6≠b) (Zg : 6≠c) (hL:s.left<=9223372036854775807) :
  Calls prog 218 #[.pointer (some (c,0)),ep,li] w fun e w'=>e=.returned (aO p (bn off s ep li).1)/\fK w' b (bn off s ep li).2.1/\yL w' c b (bn off s ep li).2.2/\bW b c w w':=by
 obtain⟨R,hR⟩:∃R,R=bn off s ep li:=⟨_,rfl⟩;rw[<- hR];have HR:Hid (R=bn off s ep li):=hR;have L:Hid (fK w b s):=S;have M:Hid (yL w c b off):=C;have HE:Hid (Se5 w p):=E;have HL:Hid (s.left<=9223372036854775807):=hL;have c1:=C.c1;have g1:=E.c1;have g5:=E.c5;have g6:=E.c6;have g9:=E.c9;clear hR S C E hL
 cases off
 ·cases o:lX ep li
  ·have HB:Hid (nN ep=true/\nN li=true):=by
    show _/\_;unfold lX at o;simpa using o
   have I1:=HB.1;have I2:=HB.2;go_enter func218,ntmps218;go_wp2_with (first | (go_at_call 255;refine(sZ _ _).mono ?_;rintro e w' ⟨rfl,N⟩;obtain rfl:=N.symm))
   refine(yU c b false s w M L).mono ?_;rintro e i ⟨rfl,j⟩;have C1:Hid (yL i c b false):=M.below j;have S1:Hid (fK i b s):=L.below j;have B1:Hid (Below w w i):=j;have E1:Hid (Se5 i p):=HE.below j;clear j g1 g5 g6 g9 c1;obtain⟨y,W⟩:∃y,newest s.B=y:=⟨_,rfl⟩;have HY:Hid (newest s.B=y):=W;have O:Hid (y.n < 4294967296/\y.e < 4294967296/\y.l < 4294967296):=by rw[<- W];exact oN s.B
   rw[W];clear W;have u:Hid (R=if mX s ep li then (10,s,false) else if y.n=4294967295 then (6,s,false) else if (dw s (aY s ep li)).2 then (0,(dw s (aY s ep li)).1,false) else (7,(dw s (aY s ep li)).1,true)):=by
    rw[HR.out,<- HY.out];unfold bn;rw[o];exact rfl
   have z:Hid (mX s ep li=(decide (ep < y.e) || decide (li < y.l))):=by rw[<- HY.out];exact rfl
   clear o;unfold CS;obtain⟨w2,h⟩:∃w2,w2=i.alloc (.cells #[y.n,y.e,y.l] 325):=⟨_,rfl⟩;have N2:Hid (iy w2 i y.n y.e y.l):=by rw[h];exact dh i _
   have G:Hid (Below i i w2):=by rw[h];exact aB _ _
   have H:Hid (yL w2 c b false):=C1.below G;have X:Hid (fK w2 b s):=S1.below G;have E2:Hid (Se5 w2 p):=E1.below G;have Zh:=C1.lt;have Zi:=S1.lt;have e9:=E2.c9;have e5:=E2.c5;have e6:=E2.c6;have d0:=H.c0;rw[h]at e9 e5 e6 d0;by_cases A:mX s ep li=true
   ·have f:Hid (R=(10,s,false)):=by rw[u.out,aj A];exact rfl
    have I:Hid (Below w w w2):=t2 B1 G;by_cases Q:ep < y.e
    ·go_wp2_with fail;go_ret;rw[<- h];exact⟨by rw[f.out];rfl,by rw[f.out];exact X,by rw[f.out];exact H,bW.of I.out⟩
    ·have h2:li < y.l:=by
      rw[z.out,gQ Q]at A;simpa using A
     go_wp2_with fail;go_ret;rw[<- h];exact⟨by rw[f.out];rfl,by rw[f.out];exact X,by rw[f.out];exact H,bW.of I.out⟩
   ·have D:Hid (R=if y.n=4294967295 then (6,s,false) else if (dw s (aY s ep li)).2 then (0,(dw s (aY s ep li)).1,false) else (7,(dw s (aY s ep li)).1,true)):=by rw[u.out,ak A];exact rfl
    have Zj:¬ep < y.e/\¬li < y.l:=by
     rw[z.out]at A;simpa using A
    obtain⟨Q,h2⟩:=Zj;clear A;by_cases Y:y.n=4294967295
    ·have f:Hid (R=(6,s,false)):=by rw[D.out,aj Y];exact rfl
     have I:Hid (Below w w w2):=t2 B1 G;have T:((y.n:Int)==4294967295)=true:=xI.2 om;clear Y;go_wp2_with fail;go_ret;rw[<- h];exact⟨by rw[f.out];rfl,by rw[f.out];exact X,by rw[f.out];exact H,bW.of I.out⟩
    ·have k:Hid (R=if (dw s (aY s ep li)).2 then (0,(dw s (aY s ep li)).1,false) else (7,(dw s (aY s ep li)).1,true)):=by rw[D.out,ak Y];exact rfl
     have T:((y.n:Int)==4294967295)=false:=dG.2 om;have HX:Hid (aY s ep li=⟨y.n+1,ep.toNat,li.toNat⟩):=by unfold aY;rw[HY.out];exact rfl
     rw[HX.out]at k;have m:Hid (0<=ep/\ep<=1073741824/\0<=li/\li<=1073741824):=by
      have a:=HB.out;unfold nN at a;show _/\_;simp at a;omega
     have Zk:y.n < 4294967295:=by have:=O.1;omega
     have U:(y.n:Int) < 4294967295:=by omega
     have Zl:Hid ((ep.toNat:Int)=ep):=(show(ep.toNat:Int)=ep by have:=m.out;omega);have Zm:Hid ((li.toNat:Int)=li):=(show(li.toNat:Int)=li by have:=m.out;omega);obtain⟨x,F⟩:∃x:Nm,x=⟨y.n+1,ep.toNat,li.toNat⟩:=⟨_,rfl⟩;have PU:Hid (∀w,fK w b s->Calls prog 256 #[.pointer (some (b,0)),.agg #[.int .i64 (y.n+1),ep,li]] w fun e w'=>e=.returned (.bool (dw s x).2)/\fK w' b (dw s x).1/\aC b w w'):=fun w S=>by
      have:=Xr b x (by rw[F];show y.n+1 < _;omega) (by rw[F];show ep.toNat < _;have:=m.out;omega) (by rw[F];show li.toNat < _;have:=m.out;omega) s w S HL;rw[F]at this;unfold CS at this;simp only[Zl.out,Zm.out]at this;rw[F];exact this
     rw[<- F]at k;clear F HX D u z Y O Zk;have Zn:Hid (IntKind.i64.wrap ((y.n:Int)+1)=(y.n:Int)+1):=by show _=_;rw[iI];omega
     clear U;go_upto_region 8 with fail
     go_wp2_with fail;rw[<- h];have I:Hid (Below w w w2):=t2 B1 G;have Zq:i.heap.size≠c:=by omega
     have Zp:i.heap.size≠b:=by omega
     clear h e9 e5 e6 d0 Q h2 T Zh Zi I1 I2;generalize i.heap.size=q at *;have hS:w2.drew.cell? (c,0)=some (.pointer (some (b,0)))/\w2.drew.cell? (q,0)=y.n:=⟨H.c0,N2.c0⟩;have Zr:=Zn.out;go_region_held3 (fun w'=>w'.cell? (c,0)=some (.pointer (some (b,0)))/\w'.cell? (q,0)=y.n) (first | assumption | exact⟨V.c0,N3.c0⟩)
      (first | (go_at_call 256;refine(PU _ (X.drew)).mono ?_;rintro e J ⟨rfl,s3,c3⟩;have V:Hid (yL J c b false):=(H.below bD).dO c3 K;have N3:Hid (iy J q y.n y.e y.l):=(show iy w2.drew q y.n y.e y.l from N2.out).dO c3 Zp;have S3:Hid (fK J b (dw s x).1):=s3;have X3:Hid (aC b w J):=(aC.of (b:=b) (t2 I bD)).trans c3;have g3:J.cell? (6,0)=some (.iface 359 (.pointer (some (p 6)))):=c3.keeps Z (show w2.drew.cell? _=_ from E2.c6);clear s3 c3))
     have Zt:Hid ((dw s x).2=(dw s x).2):=rfl;generalize dw s x=P at *;obtain⟨s5,ok⟩:=P;have d1:=V.c1;have d2:=V.f1
     cases ok
     ·have f:Hid (R=(7,s5,true)):=k.out;have g4:(J.setCell (c,1) (.bool true)).cell? (6,0)=some (.iface 359 (.pointer (some (p 6)))):=by
       rw[lT _ _ _ _ (by intro e;injection e with e;exact Zg e.symm)];exact g3
      go_wp2_with fail;go_ret;exact⟨by rw[f.out];rfl,by rw[f.out];exact S3.dO (aC.set c _ _ _) (fun e=>K e.symm),by rw[f.out];exact V.kill true,((bW.refl b c w).on X3 (Or.inl rfl)).on (aC.set c _ _ _) (Or.inr (Or.inl rfl))⟩
     ·have f:Hid (R=(0,s5,false)):=k.out;go_wp2_with fail;go_ret;exact⟨by rw[f.out];rfl,by rw[f.out];exact S3,by rw[f.out];exact V,(bW.refl b c w).on X3 (Or.inl rfl)⟩
  ·have f:Hid (R=(2,s,false)):=by rw[HR.out];unfold bn;rw[o];exact rfl
   cases Q:nN ep
   ·go_enter func218,ntmps218;go_wp2_with (first | (go_at_call 255;refine(sZ _ _).mono ?_;rintro e w' ⟨rfl,N⟩;obtain rfl:=N.symm))
    go_ret;exact⟨by rw[f.out];rfl,by rw[f.out];exact L,by rw[f.out];exact M,bW.refl _ _ _⟩
   ·have h2:nN li=false:=by
     unfold lX at o;rw[Q]at o;simpa using o
    go_enter func218,ntmps218;go_wp2_with (first | (go_at_call 255;refine(sZ _ _).mono ?_;rintro e w' ⟨rfl,N⟩;obtain rfl:=N.symm))
    go_ret;exact⟨by rw[f.out];rfl,by rw[f.out];exact L,by rw[f.out];exact M,bW.refl _ _ _⟩
 ·have f:Hid (R=(7,s,true)):=HR.out;go_enter func218,ntmps218;go_wp2_with fail;go_ret;exact⟨by rw[f.out];rfl,by rw[f.out];exact L,by rw[f.out];exact M,bW.refl _ _ _⟩
theorem XA (l:List (Nat×UInt8)) (s:By):(nZ s l).1.left<=s.left:=by
 rw[wF];split
 ·simp only;split <;> omega
 ·split
  ·split
   ·exact bJ _
   ·exact jY _
  ·exact bJ _
theorem yV (off:Bool) (s:By) (ep li:Int):(bn off s ep li).2.1.left<=s.left:=by
 unfold bn;repeat' split
 all_goals first | exact bJ _ | exact XA _ _
theorem J6 (off:Bool) (s:By) (ep li:Int):(bn off s ep li).2.1.B.length=s.B.length:=by
 unfold bn;repeat' split
 all_goals first | rfl | exact Iq _ _
structure Cl (w0 w:World) (b c:Nat) (s:By) (off:Bool):Prop where
 y:fK w b s
 e:yL w c b off
 ne:c≠b
 hb:w0.heap.size<=b
 hc:w0.heap.size<=c
 bl:Below w0 w0 w
 lf:s.left<=9223372036854775807
theorem Cl.below {w0 w w':World} {b c:Nat} {s:By} {off:Bool} (h:Cl w0 w b c s off) (k:Below w w w'):Cl w0 w' b c s off :=
 ⟨h.y.below k,h.e.below k,h.ne,h.hb,h.hc,t2 h.bl k,h.lf⟩
theorem J7:newest iO.B=⟨0,0,0⟩:=by
 have a:bC iO.B 0=false:=unmarked dC;have e:bC iO.B 1=false:=unmarked dC;rw[lZ,a,e];rfl
theorem XB {s:By} (h:s.on=true) (a:s.cut=false) (x:Nm):(dw s x).2=true:=by
 unfold dw;rw[wF,aj ⟨h,.inl a⟩]
def By.XC (s:By):By:=⟨s.B,true,false,s.left⟩
theorem on_any (b:Nat) (s:By) (w:World) (S:fK w b s):Calls prog 177 #[.pointer (some (b,0))] w fun e w'=>e=.returned (.tuple #[])/\fK w' b s.XC/\aC b w w':=by
 have a:Hid (fK w b s):=S;have f:=S.on;have h:=S.cut;have i:=S.fr 64;have j:=S.fr 65;clear S;go_enter func177,ntmps177;go_wp2_with fail;go_end0
 exact⟨rfl,(a.aei true).bF false,(aC.set _ _ _ _).trans (aC.set _ _ _ _)⟩
def o8 (s:By) (n:Int):Nat:=if n < 0 then 2 else if s.on then 0 else 7
def By.bF (s:By) (n:Int):By:=if o8 s n=0 then ⟨s.B,s.on,true,n.toNat⟩ else s
theorem acs (b:Nat) (s:By) (n:Int) (k:Nat->Addr) (w:World) (S:fK w b s) (E:Se5 w k) :
  Calls prog 142 #[.pointer (some (b,0)),n] w fun e w'=>e=.returned (aO k (o8 s n))/\fK w' b (s.bF n)/\aC b w w':=by
 have i:Hid (fK w b s):=S;have l:=S.on;have o:=S.cut;have p:=S.left;have q:=S.fr 65;have u:=S.fr 66;have c1:=E.c1;have c6:=E.c6;clear S E;by_cases j:n < 0
 ·have a:Hid (o8 s n=2):=by unfold o8;rw[aj j];exact rfl
  have f:Hid (s.bF n=s):=by unfold By.bF;rw[a.out];exact rfl
  go_enter func142,ntmps142;go_wp2_with fail;go_ret;exact⟨by rw[a.out];rfl,by rw[f.out];exact i,aC.refl _ _⟩
 ·cases h:s.on
  ·have a:Hid (o8 s n=7):=by unfold o8;rw[ak j,h];exact rfl
   have f:Hid (s.bF n=s):=by unfold By.bF;rw[a.out];exact rfl
   rw[h]at l;go_enter func142,ntmps142;go_wp2_with fail;go_ret;exact⟨by rw[a.out];rfl,by rw[f.out];exact i,aC.refl _ _⟩
  ·have a:Hid (o8 s n=0):=by unfold o8;rw[ak j,h];exact rfl
   have f:Hid (s.bF n=⟨s.B,s.on,true,n.toNat⟩):=by unfold By.bF;rw[a.out];exact rfl
   have m:Hid (n=(n.toNat:Int)):=(show n=(n.toNat:Int) by omega);rw[h]at l;go_enter func142,ntmps142;go_wp2_with fail;go_ret;refine⟨by rw[a.out];rfl,?_,(aC.set _ _ _ _).trans (aC.set _ _ _ _)⟩;rw[f.out];have:=(i.bF true).Rt n.toNat;rw[<- m.out]at this;exact this
section
variable {w w':World} {n:Nat} {s:By} {lv:Int}
theorem Gl (x:Nm) (m:x.n < 4294967296) (o:x.e < 4294967296) (p:x.l < 4294967296) (w:World) :
  Calls prog 60 #[x.n,x.e,x.l] w fun e w'=>e=.returned (.string (stB (img x)))/\Below w w w':=by
 have N:(stB (w4 x.n)).size=4:=rfl;have O:(stB (w4 x.e)).size=4:=rfl;have P:(stB (w4 x.l)).size=4:=rfl;have Q:(stB (w4 (crc (body x)))).size=4:=rfl;have R:(stB (body x)).size=12:=rfl;have q:stB (w4 x.n)++stB (w4 x.e)++stB (w4 x.l)=stB (body x):=by rw[o7,o7];rfl
 have u:Hid (stB (body x)++stB (w4 (crc (body x)))=stB (img x)):=by show _=_;rw[o7];rfl
 have y:Hid (∀w,Calls prog 116 #[x.n,.int .i64 4] w fun e w'=>e=.returned (.string (stB (w4 x.n)))/\Below w w w'):=fun w=>uG x.n m w;have z:Hid (∀w,Calls prog 116 #[x.e,.int .i64 4] w fun e w'=>e=.returned (.string (stB (w4 x.e)))/\Below w w w'):=fun w=>uG x.e o w;have A:Hid (∀w,Calls prog 116 #[x.l,.int .i64 4] w fun e w'=>e=.returned (.string (stB (w4 x.l)))/\Below w w w'):=fun w=>uG x.l p w;have B:Hid (∀w,Calls prog 117 #[.string (stB (body x))] w fun e w'=>e=.returned (.int .i64 (crc (body x)))/\w'=w):=fun w=>Xx (body x) (CG x) w;have C:Hid (∀w,Calls prog 116 #[.int .i64 (crc (body x)),.int .i64 4] w fun e w'=>e=.returned (.string (stB (w4 (crc (body x)))))/\Below w w w'):=fun w=>uG _ (Xk _) w;have D:(stB (w4 x.n)++stB (w4 x.e)).size=8:=by rw[o7];rfl
 have E:(stB (w4 x.n)++stB (w4 x.e)++stB (w4 x.l)).size=12:=by rw[q];rfl
 generalize stB (w4 x.n)=a at *;generalize stB (w4 x.e)=b at *;generalize stB (w4 x.l)=c at *;generalize stB (w4 (crc (body x)))=d at *;go_enter func60,ntmps60;go_wp2_with fail;refine(y _).mono ?_;rintro e F ⟨rfl,f⟩;have G:Hid (Below w w F):=f;clear f;go_wp2_with fail;refine(z _).mono ?_;rintro e w2 ⟨rfl,h⟩;have H:Hid (Below w w w2):=t2 G h;clear h;go_wp2_with fail;refine(A _).mono ?_;rintro e I ⟨rfl,i⟩;have J:Hid (Below w w I):=t2 H i;clear i;go_wp2_with fail;refine(B _).mono ?_;rintro e K ⟨rfl,k⟩;obtain rfl:=k.symm;go_wp2_with fail;refine(C _).mono ?_;rintro e L ⟨rfl,j⟩;have M:Hid (Below w w L):=t2 J j;clear j;go_wp2_with fail;go_ret;exact⟨by rw[<- u.out];rfl,M⟩
def fG (w:World) (n:Nat) (s:By) (lv:Int):Prop:=w.heap[n]? = some (.cells #[.string (stB s.B),.bool (!s.on),lv,.bool s.cut] 99 (0,0))
theorem fG.lt (h:fG w n s lv):n < w.heap.size:=by
 rcases dX n w with a | a
 ·exact a
 ·rw[fG,eP a]at h;cases h
theorem fG.below (h:fG w n s lv) (a:Below w w w'):fG w' n s lv:=by unfold fG;rw[a.block n h.lt];exact h
theorem fG.dO {b:Nat} (h:fG w n s lv) (a:aC b w w') (e:n≠b):fG w' n s lv:=by unfold fG;rw[a.block n h.lt e];exact h
theorem fG.AB {b c:Nat} (h:fG w n s lv) (a:bW b c w w') (e:n≠b) (f:n≠c):fG w' n s lv:=by unfold fG;rw[a.block n h.lt e f];exact h
theorem fG.c0 (h:fG w n s lv):w.cell? (n,0)=some (.string (stB s.B)):=(aP w n _ _ _ _ h).trans rfl
theorem fG.c1 (h:fG w n s lv):w.cell? (n,1)=some (.bool (!s.on)):=(aP w n _ _ _ _ h).trans rfl
theorem fG.c2 (h:fG w n s lv):w.cell? (n,2)=lv:=(aP w n _ _ _ _ h).trans rfl
theorem fG.c3 (h:fG w n s lv):w.cell? (n,3)=some (.bool s.cut):=(aP w n _ _ _ _ h).trans rfl
theorem fG.fr (h:fG w n s lv) (i:Nat):w.frozen? (n,i)=false:=jk w n i _ _ h
theorem fG.s0 (h:fG w n s lv) (L:List UInt8):fG (w.setCell (n,0) (.string (stB L))) n ⟨L,s.on,s.cut,s.left⟩ lv:=by unfold fG;rw[bV w n _ _ _ _ h];rfl
theorem fG.s1 (h:fG w n s lv) (o:Bool):fG (w.setCell (n,1) (.bool (!o))) n ⟨s.B,o,s.cut,s.left⟩ lv:=by unfold fG;rw[bV w n _ _ _ _ h];rfl
theorem fG.s2 (h:fG w n s lv) (m:Int):fG (w.setCell (n,2) m) n s m:=by unfold fG;rw[bV w n _ _ _ _ h];rfl
theorem fG.s3 (h:fG w n s lv) (c:Bool):fG (w.setCell (n,3) (.bool c)) n ⟨s.B,s.on,c,s.left⟩ lv:=by unfold fG;rw[bV w n _ _ _ _ h];rfl
theorem fG.as {t:By} (h:fG w n s lv) (a:s.B=t.B) (e:s.on=t.on) (f:s.cut=t.cut):fG w n t lv:=by unfold fG at *;rw[<- a,<- e,<- f];exact h
def CZ (s:By) (m lv:Int):Int:=if o8 s m=0 then m else lv
theorem XE (n:Nat) (s:By) (lv m:Int) (w:World) (S:fG w n s lv):Calls prog 45 #[.pointer (some (n,0)),m] w fun e w'=>e=.returned (.int .i64 ((o8 s m:Nat):Int))/\fG w' n (s.bF m) (CZ s m lv)/\aC n w w':=by
 have l:Hid (fG w n s lv):=S;have c1:=S.c1;have c2:=S.c2;have c3:=S.c3;have f:=fun i=>S.fr i;clear S;by_cases o:m < 0
 ·have a:Hid (o8 s m=2):=by unfold o8;rw[aj o];exact rfl
  have h:Hid (s.bF m=s):=by unfold By.bF;rw[a.out];exact rfl
  have j:Hid (CZ s m lv=lv):=by unfold CZ;rw[a.out];exact rfl
  go_enter func45,ntmps45;go_wp2_with fail;go_ret;exact⟨by rw[a.out];rfl,by rw[h.out,j.out];exact l,aC.refl _ _⟩
 ·cases k:s.on
  ·have a:Hid (o8 s m=7):=by unfold o8;rw[ak o,k];exact rfl
   have h:Hid (s.bF m=s):=by unfold By.bF;rw[a.out];exact rfl
   have j:Hid (CZ s m lv=lv):=by unfold CZ;rw[a.out];exact rfl
   rw[k]at c1;go_enter func45,ntmps45;go_wp2_with fail;go_ret;exact⟨by rw[a.out];rfl,by rw[h.out,j.out];exact l,aC.refl _ _⟩
  ·have a:Hid (o8 s m=0):=by unfold o8;rw[ak o,k];exact rfl
   have h:Hid (s.bF m=⟨s.B,s.on,true,m.toNat⟩):=by unfold By.bF;rw[a.out];exact rfl
   rw[k]at c1;go_enter func45,ntmps45;go_wp2_with fail;go_ret;refine⟨by rw[a.out];rfl,?_,(aC.set _ _ _ _).trans (aC.set _ _ _ _)⟩;have j:Hid (CZ s m lv=m):=by unfold CZ;rw[a.out];exact rfl
   rw[h.out,j.out];exact((l.s3 true).s2 m).as rfl rfl rfl
end
theorem Gm:∀(L:List UInt8) (a j:Nat),(fO a L).take j=fO a (L.take j)
 | [],a,j=>by simp[fO]
 | v::L,a,0=>by simp[fO]
 | v::L,a,j+1=>by simp[fO,Gm L (a+1) j]
def spl (B L:List UInt8) (p:Nat):List UInt8:=B.take p++(L++B.drop (p+L.length))
theorem acu (s:By) (p:Nat) (L:List UInt8) (j:L≠[]) (k:p+L.length<=s.B.length):nZ s (fO p L) =
  if s.on=true then (if s.cut=false\/L.length<=s.left then (⟨spl s.B L p,true,s.cut,if s.cut then s.left - L.length else s.left⟩,true) else (⟨spl s.B (L.take s.left) p,false,s.cut,0⟩,false)) else (s,false):=by
 have f:fO p L≠[]:=fun e=>j (List.length_eq_zero_iff.1 (by rw[<- qI L p,e];rfl));rw[wF,qI];by_cases a:s.on=true
 ·rw[aj a];by_cases i:s.cut=false\/L.length<=s.left
  ·rw[aj ⟨a,i⟩,aj i,AY _ _ _ k];rfl
  ·rw[ak (fun h=>i h.2),ak i,aj (.inl a),ak f,Gm,AY _ _ _ (by rw[qE];omega)];rfl
 ·rw[ak a,ak (fun h=>a h.1),ak (by simp[a,f])]
theorem Gn (B L:List UInt8) (p n:Nat) (a:n<=L.length):(stB B).extract 0 p++(stB L).extract 0 n++(stB B).extract (p+n) B.length=stB (spl B (L.take n) p):=by
 apply jB;apply Ci;simp[stB,spl,ByteArray.data_append,ByteArray.data_extract,a,Nat.min_eq_left];exact vk (by rw[JF];exact bJ _)
theorem fG.drew {w:World} {n:Nat} {s:By} {lv:Int} (h:fG w n s lv):fG w.drew n s lv:=h
theorem Ud (n p:Nat) (L:List UInt8) (s:By) (lv:Int) (w:World) (R:fG w n s lv) (o:s.B.length=64) (x:p+L.length<=64) (k:s.on=true) (u:s.cut=false\/(L.length:Int)<=lv) (y : -9223372036854770000<=lv) (z:lv<=9223372036854775807) :
  Calls prog 62 #[.pointer (some (n,0)),p,.string (stB L)] w fun e w'=>e=.returned (.bool true)/\fG w' n ⟨spl s.B L p,true,s.cut,s.left⟩ (lv - L.length)/\aC n w w':=by
 have q:Hid (fG w n s lv):=R;have l:w.drew.cell? (n,0)=some (.string (stB s.B))/\w.drew.frozen? (n,0)=false:=⟨R.c0,R.fr 0⟩;have c1:=R.c1;have c2:=R.c2;have c3:=R.c3;have f:=fun i=>R.fr i;have a:Hid ((stB s.B).extract 0 p++(stB L).extract 0 L.length++(stB s.B).extract (p+L.length) 64=stB (spl s.B L p)):=by
  have:=Gn s.B L p L.length nL;rw[xH,o]at this;exact this
 have A:(stB s.B).size=64:=o;have C:(stB L).size=L.length:=rfl;rw[k]at c1;clear R;generalize stB s.B=S at *;generalize stB L=V at *;generalize L.length=m at *;have D:(p:Int)<=64:=by omega
 have E:(p:Int)+(m:Int)<=64:=by omega
 have F:IntKind.i64.wrap ((p:Int)+(m:Int))=(p:Int)+(m:Int):=by rw[iI];omega
 have G:(0:Int)<=(p:Int)+(m:Int):=by omega
 have H:((p:Int)+(m:Int)).toNat=p+m:=by omega
 have I:¬9223372036854775807 < min p 64+m+(64 - (p+m)):=by omega
 have c0:=l.1;have J:=l.2;clear l;have K:¬9223372036854775807 < min p 64+m:=by omega
 cases j:s.cut
 ·rw[j]at c3;go_enter func62,ntmps62;go_wp2_with fail;go_region;go_wp2_with fail;go_ret;refine⟨rfl,?_,((aC.set n _ _ _).trans (aC.set n _ _ _)).then bD⟩;rw[a.out];exact fG.drew (((q.s0 (spl s.B L p)).s2 (lv - m)).as rfl k j)
 ·rw[j]at c3;have M:¬lv < (m:Int):=by
   rcases u with h | h
   ·rw[j]at h;cases h
   ·omega
  go_enter func62,ntmps62;go_wp2_with fail;go_region;go_wp2_with fail;go_ret;refine⟨rfl,?_,((aC.set n _ _ _).trans (aC.set n _ _ _)).then bD⟩;rw[a.out];exact fG.drew (((q.s0 (spl s.B L p)).s2 (lv - m)).as rfl k j)
theorem OD (n p k:Nat) (L:List UInt8) (s:By) (w:World) (R:fG w n s k) (h:s.B.length=64) (u:p+L.length<=64) (j:s.on=true) (l:s.cut=true) (x:k < L.length) :
  Calls prog 62 #[.pointer (some (n,0)),p,.string (stB L)] w fun e w'=>e=.returned (.bool false)/\fG w' n ⟨spl s.B (L.take k) p,false,s.cut,0⟩ 0/\aC n w w':=by
 have o:Hid (fG w n s k):=R;have c0:=R.c0;have c1:=R.c1;have c2:=R.c2;have c3:=R.c3;have f:=fun i=>R.fr i;have a:Hid ((stB s.B).extract 0 p++(stB L).extract 0 k++(stB s.B).extract (p+k) 64=stB (spl s.B (L.take k) p)):=by
  have:=Gn s.B L p k om;rw[h]at this;exact this
 have y:(stB s.B).size=64:=h;have z:(stB L).size=L.length:=rfl;rw[j]at c1;rw[l]at c3;clear R;generalize stB s.B=S at *;generalize stB L=V at *;have A:(p:Int)<=64:=by omega
 have C:(p:Int)+(k:Int)<=64:=by omega
 have D:IntKind.i64.wrap ((p:Int)+(k:Int))=(p:Int)+(k:Int):=by rw[iI];omega
 have E:(0:Int)<=(p:Int)+(k:Int):=by omega
 have F:((p:Int)+(k:Int)).toNat=p+k:=by omega
 have G:(k:Int) < (L.length:Int):=by omega
 have H:min k L.length=k:=by omega
 have I:¬9223372036854775807 < min p 64+k:=by omega
 have J:¬9223372036854775807 < min p 64+k+(64 - (p+k)):=by omega
 generalize L.length=m at *;have K:¬(m:Int) < (k:Int):=by omega
 have q:(k:Int)<=(m:Int):=by omega
 go_enter func62,ntmps62;go_wp2_with fail;go_region;go_wp2_with fail;go_ret;refine⟨rfl,?_,(((aC.set n _ _ _).trans (aC.set n _ _ _)).trans (aC.set n _ _ _)).then bD⟩;rw[a.out];exact fG.drew ((((o.s1 false).s0 (spl s.B (L.take k) p)).s2 0).as rfl rfl rfl)
theorem OE (n p:Nat) (L:List UInt8) (s:By) (lv:Int) (w:World) (R:fG w n s lv) (j:s.B.length=64) (q:p+L.length<=64) (k:s.on=false) (u : -9223372036854770000<=lv) (x:lv<=9223372036854775807) :
  Calls prog 62 #[.pointer (some (n,0)),p,.string (stB L)] w fun e w'=>e=.returned (.bool false)/\fG w' n s lv/\aC n w w':=by
 have l:Hid (fG w n s lv):=R;have c0:=R.c0;have c1:=R.c1;have c2:=R.c2;have f:=fun i=>R.fr i;have a:Hid ((stB s.B).extract 0 (max p 64)=stB s.B):=by
  show _=_;rw[show max p 64=64 from by omega];apply jB;apply Ci;simp[stB,ByteArray.data_extract];exact vk om
 have m:(stB s.B).size=64:=j;have y:(stB L).size=L.length:=rfl;rw[k]at c1;clear R;obtain⟨S,h⟩:∃S,S=stB s.B:=⟨_,rfl⟩;rw[<- h]at c0 a m;have o:Hid (S=stB s.B):=h;clear h;generalize stB L=V at *;have z:(p:Int)<=64:=by omega
 have A:¬9223372036854775807 < min p 64:=by omega
 have C:¬9223372036854775807 < min p 64+(64 - p):=by omega
 have D:IntKind.i64.wrap (p:Int)=(p:Int):=by rw[iI];omega
 go_enter func62,ntmps62;go_wp2_with fail;go_region;go_wp2_with fail;go_ret;refine⟨rfl,?_,((aC.set n _ _ _).trans (aC.set n _ _ _)).then bD⟩;rw[a.out,o.out];exact fG.drew ((l.s0 s.B).s2 lv)
theorem OG (n p:Nat) (L:List UInt8) (s:By) (lv:Int) (w:World) (R:fG w n s lv) (l:s.B.length=64) (m:p+L.length<=64) (x:L≠[]) (i:s.cut=true->lv=s.left) (q : -9223372036854770000<=lv) (u:lv<=9223372036854775807) :
  Calls prog 62 #[.pointer (some (n,0)),p,.string (stB L)] w fun e w'=>e=.returned (.bool (nZ s (fO p L)).2)/\(∃f,fG w' n (nZ s (fO p L)).1 f/\((nZ s (fO p L)).1.cut=true->f=(nZ s (fO p L)).1.left)/\lv - L.length<=f/\f<=lv)/\aC n w w':=by
 rw[acu s p L x om];by_cases k:s.on=true
 ·rw[aj k];by_cases j:s.cut=false\/L.length<=s.left
  ·rw[aj j];refine(Ud n p L s lv w R l m k ?_ q u).mono ?_
   ·rcases j with h | h
    ·exact .inl h
    ·cases a:s.cut
     ·exact .inl rfl
     ·exact .inr (by rw[i a];omega)
   ·rintro e w' ⟨rfl,r,c⟩;refine⟨rfl,⟨_,r.as rfl rfl rfl,?_,yO _,by omega⟩,c⟩;intro a;have a:s.cut=true:=a;show lv - L.length=((if s.cut=true then s.left - L.length else s.left:Nat):Int);rcases j with h | h
    ·rw[h]at a;cases a
    ·rw[aj a,i a];omega
  ·rw[ak j];have a:s.cut=true:=by
    cases h:s.cut
    ·exact absurd (.inl h) j
    ·rfl
   have o:s.left < L.length:=by
    rcases dX s.left L.length with h | h
    ·exact h
    ·exact absurd (.inr h) j
   rw[i a]at R;refine(OD n p s.left L s w R l m k a o).mono ?_;rintro e w' ⟨rfl,r,c⟩;refine⟨rfl,⟨0,r,fun _=>rfl,?_,?_⟩,c⟩
   ·rw[i a];omega
   ·rw[i a];omega
 ·rw[ak k];refine(OE n p L s lv w R l m (by simpa using k) q u).mono ?_;rintro e w' ⟨rfl,r,c⟩;exact⟨rfl,⟨lv,r,i,by omega,yO _⟩,c⟩
section
variable {w w' w0:World} {m n:Nat} {y:Nm} {d:Bool} {s:By} {lo:Int}
def og (w:World) (m n:Nat) (y:Nm) (a:Bool):Prop:=w.heap[m]? = some (.cells #[.pointer (some (n,0)),y.n,y.e,y.l,.bool a] 90 (0,0))
theorem og.lt (h:og w m n y d):m < w.heap.size:=by
 rcases dX m w with a | a
 ·exact a
 ·rw[og,eP a]at h;cases h
theorem og.below (h:og w m n y d) (a:Below w w w'):og w' m n y d:=by unfold og;rw[a.block m h.lt];exact h
theorem og.dO {b:Nat} (h:og w m n y d) (a:aC b w w') (e:m≠b):og w' m n y d:=by unfold og;rw[a.block m h.lt e];exact h
theorem og.AB {b c:Nat} (h:og w m n y d) (a:bW b c w w') (e:m≠b) (f:m≠c):og w' m n y d:=by unfold og;rw[a.block m h.lt e f];exact h
theorem og.c0 (h:og w m n y d):w.cell? (m,0)=some (.pointer (some (n,0))):=(aP w m _ _ _ _ h).trans rfl
theorem og.c1 (h:og w m n y d):w.cell? (m,1)=y.n:=(aP w m _ _ _ _ h).trans rfl
theorem og.c2 (h:og w m n y d):w.cell? (m,2)=y.e:=(aP w m _ _ _ _ h).trans rfl
theorem og.c3 (h:og w m n y d):w.cell? (m,3)=y.l:=(aP w m _ _ _ _ h).trans rfl
theorem og.c4 (h:og w m n y d):w.cell? (m,4)=some (.bool d):=(aP w m _ _ _ _ h).trans rfl
theorem og.fr (h:og w m n y d) (i:Nat):w.frozen? (m,i)=false:=jk w m i _ _ h
theorem og.kill (h:og w m n y d) (v:Bool):og (w.setCell (m,4) (.bool v)) m n y v:=by unfold og;rw[bV w m _ _ _ _ h];rfl
theorem og.put (h:og w m n y d) (x:Nm):og (((w.setCell (m,1) x.n).setCell (m,2) x.e).setCell (m,3) x.l) m n x d:=by
 unfold og;rw[bV _ m _ _ _ _ (bV _ m _ _ _ _ (bV w m _ _ _ _ h))];rfl
structure RS (w0 w:World) (n m:Nat) (s:By) (y:Nm) (d:Bool) (lo:Int):Prop where
 r:∃lv,fG w n s lv/\(s.cut=true->lv=s.left)/\lo<=lv/\lv<=9223372036854775807
 c:og w m n y d
 ne:m≠n
 len:s.B.length=64
 x:bW n m w0 w
theorem RS.below (h:RS w0 w n m s y d lo) (a:Below w w w'):RS w0 w' n m s y d lo:=by
 obtain⟨⟨lv,e,f⟩,c,i,len,x⟩:=h;exact⟨⟨lv,e.below a,f⟩,c.below a,i,len,x.then a⟩
theorem RS.drew (h:RS w0 w n m s y d lo):RS w0 w.drew n m s y d lo:=h.below bD
theorem RS.dO {g:Nat} (h:RS w0 w n m s y d lo) (a:aC g w w') (e:n≠g) (f:m≠g) (i:w0.heap.size<=g):RS w0 w' n m s y d lo:=by
 obtain⟨⟨lv,j,k⟩,c,l,len,x⟩:=h;exact⟨⟨lv,j.dO a e,k⟩,c.dO a f,l,len,x.on a (Or.inr (Or.inr i))⟩
theorem RS.kill (h:RS w0 w n m s y d lo) (v:Bool):RS w0 (w.setCell (m,4) (.bool v)) n m s y v lo:=by
 obtain⟨⟨lv,f,i⟩,c,a,len,x⟩:=h;exact⟨⟨lv,f.dO (aC.set m _ _ _) (fun e=>a e.symm),i⟩,c.kill v,a,len,x.on (aC.set m _ _ _) (Or.inr (Or.inl rfl))⟩
theorem RS.put (h:RS w0 w n m s y d lo) (z:Nm):RS w0 (((w.setCell (m,1) z.n).setCell (m,2) z.e).setCell (m,3) z.l) n m s z d lo:=by
 obtain⟨⟨lv,f,i⟩,c,a,len,x⟩:=h;have k:aC m w (((w.setCell (m,1) z.n).setCell (m,2) z.e).setCell (m,3) z.l):=((aC.set m _ _ _).trans (aC.set m _ _ _)).trans (aC.set m _ _ _);exact⟨⟨lv,f.dO k (fun e=>a e.symm),i⟩,c.put z,a,len,x.on k (Or.inr (Or.inl rfl))⟩
theorem yX (h:RS w0 w n m s y d lo) (p:Nat) (L:List UInt8) (i:p+L.length<=64) (j:L≠[]) (l : -1000000000<=lo) :
  Calls prog 62 #[.pointer (some (n,0)),p,.string (stB L)] w fun e w'=>e=.returned (.bool (nZ s (fO p L)).2)/\RS w0 w' n m (nZ s (fO p L)).1 y d (lo - L.length):=by
 obtain⟨⟨lv,o,q,B,u⟩,c,f,len,x⟩:=h;refine(OG n p L s lv w o len i j q om u).mono ?_;rintro e w' ⟨rfl,⟨a,z,A,C,D⟩,k⟩;exact⟨rfl,⟨a,z,A,by omega,by omega⟩,c.dO k f,f,by rw[Iq];exact len,x.on k (Or.inl rfl)⟩
theorem wH:∀(l r:List (Nat×UInt8)) (s:By),nZ s (l++r)=if (nZ s l).2=true then nZ (nZ s l).1 r else ((nZ s l).1,false)
 | [],r,s=>rfl
 | (a,v)::l,r,s=>by
  show nZ s ((a,v)::(l++r))=_;rw[JW,JW]
  cases s.ok
  ·rfl
  ·exact wH l r _
theorem Ue (s:By) (x:Nm) (p:Nat):jC s x p 0=if (nZ s (fO p (img x))).2=true then nZ (nZ s (fO p (img x))).1 (fO (p+16) [165]) else ((nZ s (fO p (img x))).1,false):=by
 unfold jC;rw[oV,List.drop_zero,wH];rfl
theorem XF (s:By) (x:Nm) (h:s.B.getD (20 * (x.n % 2)+16) 0≠0):dw s x=if (nZ s (fO (20 * (x.n % 2)+16) [0])).2=true then jC (nZ s (fO (20 * (x.n % 2)+16) [0])).1 x (20 * (x.n % 2)) 0 else ((nZ s (fO (20 * (x.n % 2)+16) [0])).1,false):=by
 unfold dw lV JQ jC;rw[ak h,wH];rfl
theorem Uf (s:By) (x:Nm) (h:s.on=false):dw s x=(s,false):=by
 have a:lV s.B x≠[]:=fun e=>by have:=CY s.B x;rw[e]at this;simp at this
 unfold dw;rw[wF,ak (by simp[h]),ak (by simp[h,a])]
end
theorem RS.mono {w0 w:World} {n m:Nat} {s:By} {y:Nm} {d:Bool} {lo lo':Int} (h:RS w0 w n m s y d lo) (j:lo'<=lo):RS w0 w n m s y d lo':=by
 obtain⟨⟨lv,a,e,k,f⟩,c,i,len,x⟩:=h;exact⟨⟨lv,a,e,by omega,f⟩,c,i,len,x⟩
theorem af8 (w:World):Calls prog 61 #[.int .i64 0] w fun e w'=>e=.returned (.string (stB [0]))/\Below w w w':=qG 0 dC dC w
theorem Rw (w:World):Calls prog 61 #[.int .i64 165] w fun e w'=>e=.returned (.string (stB [165]))/\Below w w w':=qG 165 dC dC w
def ag6 (b:Bool):Int:=if b then 0 else 7
def ag7 (b:Bool) (x y:Nm):Nm:=if b then x else y
theorem acv {w0 w:World} {n m:Nat} {s:By} {y x:Nm} {lo:Int} (h:RS w0 w n m s y false lo) (ep li:Int) (W : -900000000<=lo) (e1:0<=ep) (e2:ep<=1073741824) (e3:0<=li) (e4:li<=1073741824) (o1:(y.e:Int)<=ep) (o2:(y.l:Int)<=li) (hn:y.n < 4294967295) (V:x=⟨y.n+1,ep.toNat,li.toNat⟩) :
  Calls prog 36 #[.pointer (some (m,0)),ep,li] w fun e w'=>e=.returned (.int .i64 (ag6 (dw s x).2))/\RS w0 w' n m (dw s x).1 (ag7 (dw s x).2 x y) (!(dw s x).2) (lo - 20):=by
 obtain⟨R,F⟩:∃R,R=dw s x:=⟨_,rfl⟩;have z:x.n=y.n+1:=by rw[V]
 obtain⟨p,X⟩:∃p,p=20 * ((y.n+1) % 2):=⟨_,rfl⟩;have R0:Hid (s.on=false->R=(s,false)):=fun h=>by rw[F];exact Uf s x h
 have R1:Hid (s.B.getD (p+16) 0=0->R=jC s x p 0):=fun h=>by rw[F,X,<- z];exact Gh s x (by rw[z,<- X];exact h)
 have R2:Hid (s.B.getD (p+16) 0≠0->R=if (nZ s (fO (p+16) [0])).2=true then jC (nZ s (fO (p+16) [0])).1 x p 0 else ((nZ s (fO (p+16) [0])).1,false)):=fun h=>by
  have:=XF s x (by rw[z,<- X];exact h);rw[z,<- X]at this;rw[F];exact this
 have BO:Hid (∀w,Calls prog 60 #[.int .i64 ((y.n:Int)+1),ep,li] w fun e w'=>e=.returned (.string (stB (img x)))/\Below w w w'):=fun w=>by
  have:=Gl x om (by rw[V];show ep.toNat < _;omega) (by rw[V];show li.toNat < _;omega) w;rw[V]at this ⊢;have a1:((ep.toNat:Nat):Int)=ep:=by omega
  have a2:((li.toNat:Nat):Int)=li:=by omega
  simp only[a1,a2]at this;exact this
 have G:Hid ((x.n:Int)=(y.n:Int)+1/\(x.e:Int)=ep/\(x.l:Int)=li):=by
  rw[V];exact⟨by simp,by show((ep.toNat:Nat):Int)=ep;omega,by show((li.toNat:Nat):Int)=li;omega⟩
 rw[<- F];have H:=jH h;have I:=jH W;have c0:=h.c.c0;have c1:=h.c.c1;have c2:=h.c.c2;have c3:=h.c.c3;have c4:=h.c.c4;have cf:=fun i=>h.c.fr i;have Zq:=h.ne;obtain⟨lv,r1,_⟩:=h.r;have b0:=r1.c0;have b1:=r1.c1;have zS:(stB s.B).size=64:=h.len;have Zp:p+17<=64:=by omega
 have HM:Hid (∀q:p+16 < (stB s.B).size,((stB s.B)[p+16]'q)=s.B.getD (p+16) 0):=fun q=>by
  rw[qj,fD (by exact q)];rfl
 have Zi:(((y.n:Int)+1) % 2) * 20=(p:Int):=by omega
 have g1:¬ep < 0:=by omega
 have g2:¬(1073741824:Int) < ep:=by omega
 have g3:¬li < 0:=by omega
 have g4:¬(1073741824:Int) < li:=by omega
 have g5:¬ep < (y.e:Int):=by omega
 have g6:¬li < (y.l:Int):=by omega
 have g7:¬(4294967296:Int)<=(y.n:Int)+1:=by omega
 have g8:(y.n:Int)<=4294967296:=by omega
 clear h W e1 e2 e3 e4 o1 o2 hn V F z r1 X;go_enter func36,ntmps36;go_upto_region 12 with fail
 clear g1 g2 g3 g4 g5 g6 g7 g8 Zi c1 c2 c3 c4;obtain⟨on,J⟩:∃on,s.on=on:=⟨_,rfl⟩;have Y:=jH J;rw[J]at b1 ⊢;clear J;obtain⟨M,hM⟩:∃M,M=s.B.getD (p+16) 0:=⟨_,rfl⟩;rw[<- hM]at R1 R2 HM;clear hM;have ip:(p:Int)+16 < 64:=by omega
 go_cut [73] (fun t K=>∃q:Bool,t=.bool q/\q=(on && !(M==0))/\K=w)
 case first =>
  have Z:p+16 < (stB s.B).size:=by rw[zS];omega
  have Zg:=HM.out Z;have Zj:=jH Zg;clear Zg;generalize stB s.B=S at *;have iS:(p:Int)+16 < (S.size:Int):=by omega
  cases on
  ·go_wp2_with fail;go_meet
   case rel=>exact⟨_,rfl,rfl,rfl⟩
  ·obtain⟨u,hu⟩:∃u,S[p+16]'Z=u:=⟨_,rfl⟩;have HU:Hid (u=M):=by show _=_;rw[<- hu];exact Zj
   by_cases L:M=0
   ·have Zk:u.toNat=0:=by rw[HU.out,L];rfl
    have Zl:((u.toNat:Int) != 0)=false:=by rw[Zk];rfl
    go_wp2_with fail;go_meet
    case rel=>exact⟨_,rfl,by rw[L];rfl,rfl⟩
   ·have Zl:((u.toNat:Int) != 0)=true:=by
     rw[qY,HU.out];intro e;exact L (UInt8.toNat_inj.1 (by show _=0;omega))
    have N:=jH (dG.2 L);go_wp2_with fail;go_meet
    case rel=>exact⟨_,rfl,by rw[N.out];rfl,rfl⟩
 case rest =>
  obtain⟨q,rfl,Z,rfl⟩:=hcut;have HQ:=jH Z;clear Z;go_upto_if 73 with fail
  go_cut [9] (fun t K=>∃(st:By) (ok:Bool),t=.bool ok/\RS w0 K n m st y false (lo - 1)/\((ok=true/\R=jC st x p 0)\/(ok=false/\R=(st,false))))
  case first =>
   cases q
   ·go_wp2_with fail;go_meet
    case rel =>
     refine⟨s,on,rfl,H.mono om,?_⟩
     cases on
     ·exact .inr ⟨rfl,R0 Y⟩
     ·refine .inl ⟨rfl,R1 ?_⟩;have:=HQ.out;simpa using this
   ·have Zm:on=true/\M≠0:=by
     have:=HQ.out;simpa using this
    obtain⟨ho,L⟩:=Zm;have N:=jH L;clear L ho
    ·have hS:=c0;have Zn:IntKind.i64.wrap ((p:Int)+16)=(p:Int)+16:=by rw[iI];omega
     go_wp2_with fail;go_region_held3 (fun w'=>w'.cell? (m,0)=some (.pointer (some (n,0)))) (first | assumption | exact a.c.c0 | exact f.c.c0)
      (first
     | (go_at_call 61;refine jM (af8 _) fun v1 j=>?_;have f:=jH (H.drew.below j);clear j)
     | (go_at_call 62;refine jM (yX f (p+16) [0] (by simp;omega) sM (by have:=I.out;omega)) fun v2 a=>?_))
     have O:=jH (R2.out N);generalize nZ s (fO (p+16) [0])=P at *;obtain⟨st,ok⟩:=P;go_wp2_with fail;go_meet
     case rel =>
      refine⟨st,ok,rfl,a,?_⟩
      cases ok
      ·exact .inr ⟨rfl,O⟩
      ·exact .inl ⟨rfl,O⟩
  case rest =>
   obtain⟨st,ok,rfl,k,A⟩:=hcut;have C:=jH k;have Q:=jH A;clear k A H R0 R1 R2 HM c0 b0 b1 Y HQ zS;go_upto_if 82 with fail
   go_cut [9] (fun t K=>∃(st:By) (ok:Bool),t=.bool ok/\RS w0 K n m st y false (lo - 17)/\((ok=true/\R=nZ st (fO (p+16) [165]))\/(ok=false/\R=(st,false))))
   case first =>
    cases ok
    ·go_wp2_with fail;go_meet
     case rel =>
      rcases Q.out with⟨h,_⟩ | ⟨_,h⟩
      ·cases h
      ·exact⟨st,false,rfl,C.mono om,.inr ⟨rfl,h⟩⟩
    ·have hS:=C.c.c0;have T:=eG x;go_wp2_with fail;go_region_held3 (fun w'=>w'.cell? (m,0)=some (.pointer (some (n,0)))) (first | assumption | exact a.c.c0 | exact f.c.c0)
      (first
      | (go_at_call 60;refine jM (BO _) fun v1 j=>?_;have f:=jH (C.drew.below j);clear j)
      | (go_at_call 62;refine jM (yX f (p) (img x) om (fun e=>by rw[e]at T;simp at T) (by have:=I.out;omega)) fun v2 a=>?_))
     have O:Hid (R=if (nZ st (fO p (img x))).2=true then nZ (nZ st (fO p (img x))).1 (fO (p+16) [165]) else ((nZ st (fO p (img x))).1,false)):=by
      rcases Q.out with⟨_,h⟩ | ⟨h,_⟩
      ·rw[h];exact Ue st x p
      ·cases h
     generalize nZ st (fO p (img x))=P at *;obtain⟨s2,D⟩:=P;go_wp2_with fail;go_meet
     case rel =>
      refine⟨s2,D,rfl,a.mono (by rw[T];omega),?_⟩
      cases D
      ·exact .inr ⟨rfl,O⟩
      ·exact .inl ⟨rfl,O⟩
   case rest =>
    obtain⟨st,ok,rfl,k,A⟩:=hcut;have E:=jH k;have U:=jH A;clear k A C Q;go_upto_if 93 with fail
    go_cut [9] (fun t K=>∃(st:By) (ok:Bool),t=.bool ok/\RS w0 K n m st y false (lo - 20)/\R=(st,ok))
    case first =>
     cases ok
     ·go_wp2_with fail;go_meet
      case rel =>
       rcases U.out with⟨h,_⟩ | ⟨_,h⟩
       ·cases h
       ·exact⟨st,false,rfl,E.mono om,h⟩
     ·have hS:=E.c.c0;have Zn:IntKind.i64.wrap ((p:Int)+16)=(p:Int)+16:=by rw[iI];omega
      go_wp2_with fail;go_region_held3 (fun w'=>w'.cell? (m,0)=some (.pointer (some (n,0)))) (first | assumption | exact a.c.c0 | exact f.c.c0)
       (first
      | (go_at_call 61;refine jM (Rw _) fun v1 j=>?_;have f:=jH (E.drew.below j);clear j)
      | (go_at_call 62;refine jM (yX f (p+16) ([165]) (by simp;omega) sM (by have:=I.out;omega)) fun v2 a=>?_))
      have O:Hid (R=nZ st (fO (p+16) [165])):=by
       rcases U.out with⟨_,h⟩ | ⟨h,_⟩
       ·exact h
       ·cases h
      generalize nZ st (fO (p+16) [165])=P at *;obtain⟨s2,D⟩:=P;go_wp2_with fail;go_meet
      case rel=>exact⟨s2,D,rfl,a.mono (by simp;omega),O⟩
    case rest =>
     obtain⟨st,ok,rfl,k,F⟩:=hcut;have o:=jH k;have Zh:=jH F;clear k F E U;have c1:=o.c.c1;have c2:=o.c.c2;have c3:=o.c.c3;have c4:=o.c.c4;have cg:=fun i=>o.c.fr i
     cases ok
     ·go_wp2_with fail;go_ret;rw[Zh.out];exact⟨rfl,o.kill true⟩
     ·go_wp2_with fail;go_ret;rw[Zh.out];refine⟨rfl,?_⟩;have:=o.put x;rw[G.1,G.2.1,G.2.2]at this;exact this
theorem J8 {w0 w:World} {n m:Nat} {s:By} {y:Nm} {d:Bool} {lo:Int} (h:RS w0 w n m s y d lo) (f:newest s.B=y) (ep li:Int) (i : -900000000<=lo) :
  Calls prog 36 #[.pointer (some (m,0)),ep,li] w fun e w'=>e=.returned (.int .i64 (((bn d s ep li).1:Nat):Int))/\RS w0 w' n m (bn d s ep li).2.1 (newest (bn d s ep li).2.1.B) (bn d s ep li).2.2 (lo - 20):=by
 have o:Hid (RS w0 w n m s y d lo):=h;have z:Hid (newest s.B=y):=f;have c2:=h.c.c2;have c3:=h.c.c3;have c4:=h.c.c4;have c1:=h.c.c1;have j:=oN s.B;rw[f]at j;obtain⟨R,E⟩:∃R,R=bn d s ep li:=⟨_,rfl⟩;have F:Hid (R=bn d s ep li):=E;rw[<- E];clear E
 cases d
 ·by_cases p:lX ep li=true
  ·have M:Hid (R=(2,s,false)):=by rw[F.out];unfold bn;rw[ak sM,aj p];exact rfl
   have fin:∀e:Ending,e=.returned (.int .i64 2)->e=.returned (.int .i64 ((R.1:Nat):Int))/\RS w0 w n m R.2.1 (newest R.2.1.B) R.2.2 (lo - 20):=fun e q=>by
    rw[M.out];exact⟨q,by show RS w0 w n m s (newest s.B) false _;rw[z.out];exact o.mono om⟩
   have u:Hid (∀e:Ending,e=.returned (.int .i64 2)->e=.returned (.int .i64 ((R.1:Nat):Int))/\RS w0 w n m R.2.1 (newest R.2.1.B) R.2.2 (lo - 20)):=fin;have G:ep < 0\/(¬ep < 0/\(1073741824:Int) < ep)\/(¬ep < 0/\¬(1073741824:Int) < ep/\li < 0)\/(¬ep < 0/\¬(1073741824:Int) < ep/\¬li < 0/\(1073741824:Int) < li):=by
    unfold lX nN at p;simp at p;omega
   clear fin p i j f h;rcases G with A | ⟨A,H⟩ | ⟨A,H,J⟩ | ⟨A,H,J,N⟩;all_goals
    go_enter func36,ntmps36;go_wp2_with fail;go_ret;exact u _ rfl
  ·have G:¬ep < 0/\¬(1073741824:Int) < ep/\¬li < 0/\¬(1073741824:Int) < li:=by
    unfold lX nN at p;simp at p;omega
   have a:R=if mX s ep li then (10,s,false) else if (newest s.B).n=4294967295 then (6,s,false) else if (dw s (aY s ep li)).2 then (0,(dw s (aY s ep li)).1,false) else (7,(dw s (aY s ep li)).1,true):=by
    rw[F.out];unfold bn;rw[ak sM,ak p]
   obtain⟨A,H,J,N⟩:=G;by_cases k:mX s ep li=true
   ·rw[aj k]at a;have u:Hid (∀e:Ending,e=.returned (.int .i64 10)->e=.returned (.int .i64 ((R.1:Nat):Int))/\RS w0 w n m R.2.1 (newest R.2.1.B) R.2.2 (lo - 20)):=fun e q=>by
     rw[a];exact⟨q,by show RS w0 w n m s (newest s.B) false _;rw[z.out];exact o.mono om⟩
    have I:ep < (y.e:Int)\/(¬ep < (y.e:Int)/\li < (y.l:Int)):=by
     unfold mX at k;rw[f]at k;simp at k;omega
    clear a p k i j f h;rcases I with K | ⟨K,O⟩;all_goals
     go_enter func36,ntmps36;go_wp2_with fail;go_ret;exact u _ rfl
   ·rw[ak k,f]at a;have I:¬ep < (y.e:Int)/\¬li < (y.l:Int):=by
     unfold mX at k;rw[f]at k;simp at k;omega
    obtain⟨K,O⟩:=I;by_cases C:y.n=4294967295
    ·rw[aj C]at a;have u:Hid (∀e:Ending,e=.returned (.int .i64 6)->e=.returned (.int .i64 ((R.1:Nat):Int))/\RS w0 w n m R.2.1 (newest R.2.1.B) R.2.2 (lo - 20)):=fun e q=>by
      rw[a];exact⟨q,by show RS w0 w n m s (newest s.B) false _;rw[z.out];exact o.mono om⟩
     rw[C]at c1;have c1:w.cell? (m,1)=some (.int .i64 4294967295):=c1;clear a p k i j f h C;go_enter func36,ntmps36;go_wp2_with fail;go_ret;exact u _ rfl
    ·rw[ak C]at a;have P:aY s ep li=⟨y.n+1,ep.toNat,li.toNat⟩:=by unfold aY;rw[f]
     have L:=sW h.len (x:=aY s ep li) rfl (by show(newest s.B).n+1 < _;rw[f];omega) (by show ep.toNat < _;omega) (by show li.toNat < _;omega);refine(acv h ep li i om om om om om om om P).mono ?_;rintro e w' ⟨rfl,rs⟩
     cases D:(dw s (aY s ep li)).2
     ·rw[D]at a rs;have a:R=(7,(dw s (aY s ep li)).1,true):=a;rw[a];refine⟨by rfl,?_⟩;show RS w0 w' n m (dw s (aY s ep li)).1 (newest (dw s (aY s ep li)).1.B) true _;rw[(L.2 D).1,f];exact rs
     ·rw[D]at a rs;have a:R=(0,(dw s (aY s ep li)).1,false):=a;rw[a];refine⟨by rfl,?_⟩;show RS w0 w' n m (dw s (aY s ep li)).1 (newest (dw s (aY s ep li)).1.B) false _;rw[(L.1 D).1];exact rs
 ·have u:Hid (∀e:Ending,e=.returned (.int .i64 7)->e=.returned (.int .i64 ((R.1:Nat):Int))/\RS w0 w n m R.2.1 (newest R.2.1.B) R.2.2 (lo - 20)):=fun e q=>by
   have a:R=(7,s,true):=F.out;rw[a];exact⟨q,by show RS w0 w n m s (newest s.B) true _;rw[z.out];exact o.mono om⟩
  clear i j f h;go_enter func36,ntmps36;go_wp2_with fail;go_ret;exact u _ rfl
theorem acw (n:Nat) (s:By) (lv:Int) (w:World) (S:fG w n s lv):Calls prog 48 #[.pointer (some (n,0))] w fun e w'=>e=.returned (.tuple #[])/\fG w' n s.XC lv/\aC n w w':=by
 have a:Hid (fG w n s lv):=S;have c1:=S.c1;have c3:=S.c3;have f:=fun i=>S.fr i;clear S;go_enter func48,ntmps48;go_wp2_with fail;go_end0
 exact⟨rfl,(a.s1 true).s3 false,(aC.set _ _ _ _).trans (aC.set _ _ _ _)⟩
theorem J9 (w:World) (Z:Nat) (h:w.heap[Z]? = some (.cells (Array.replicate 64 (.int .u8 0)) 5 (0,0))):(convert 97 9 (.slice (some (Z,0)) 64 64)).run prog w=.ok (.string (stB zero64)) w:=by
 have a:=aeM (P := prog) w 97 5 Tryz.underlying97 Tryz.underlying5 Z 0 64 64 (List.replicate 64 0) rfl (fun i f=>by
  rw[fE,aP w Z i _ _ _ h,aeJ,aj f,qj,List.getElem?_replicate,aj f];rfl) 9 Tryz.underlying9
 have e:strOfNums (List.replicate 64 0)=stB zero64:=by decide +kernel
 rw[e]at a;exact a
theorem af9 (w:World):(Instr.makeSlice 97 (.int .i64 64) (.int .i64 64)).run prog w=.ok (.slice (some (w.heap.size,0)) 64 64) (w.alloc (.cells (Array.replicate 64 (.int .u8 0)) 5)):=by kernel_rfl
theorem Fq (w:World):Calls prog 14 #[] w fun e w'=>(∃b,e=.returned (.pointer (some ⟨b,0,none⟩))/\w.heap.size<=b/\fG w' b iO 0)/\Below w w w':=by
 have h:=af9 w;have i:=J9 (w.alloc (.cells (Array.replicate 64 (.int .u8 0)) 5)) w (dh w _);have f:Hid (Below w w (w.alloc (.cells (Array.replicate 64 (.int .u8 0)) 5))):=aB _ _;obtain⟨w1,a⟩:∃w1,w.alloc (.cells (Array.replicate 64 (.int .u8 0)) 5)=w1:=⟨_,rfl⟩;rw[a]at h i f;clear a;go_enter func14,ntmps14;go_wp2_with fail;go_ret;exact⟨⟨w1.heap.size,rfl,f.size,dh w1 _⟩,t2 f (aB _ _)⟩
end Go.Proofs.YtnogmjekhjldcaaGreatDoor
