/-
  What the claimed theorem reaches, part Q02.
-/
import Derived.Test.YtnogmjekhjldcaaGreatDoorQ01
import Derived.WalkKit
import Derived.BigQuiet
import Derived.Deep.RegionWith
namespace Go.Proofs.YtnogmjekhjldcaaGreatDoor
open Go.RowKit Go.Proofs.Tryz
set_option maxRecDepth 100000
set_option maxHeartbeats 8000000
structure Ro where
 nd:Int
 ep:Int
 si:Int
 ac:Bool
structure Ro.Ok (r:Ro):Prop where
 n:r.nd=0\/r.nd=1
 e0:0<=r.ep
 e1:r.ep<=1073741824
 s0:0<=r.si
 s1:r.si<=10
def gJ (n:Int):Bool:=decide (0<=n) && decide (n<=1073741824)
theorem yP {n:Int}:gJ n=true↔0<=n/\n<=1073741824:=by unfold gJ;simp
def Ro.new (nd ep:Int):Ro:=⟨nd,ep,0,false⟩
def Ro.Xf (r:Ro):Int:=if r.si<=9 then r.si+1 else r.si
def Ro.tick (r:Ro):Ro:=if r.ac then r else ⟨r.nd,r.ep,r.Xf,false⟩
def Ro.rings (r:Ro):Bool:=if r.ac then false else decide (9 < r.Xf)
def Ro.nx (r:Ro):Int:=if (r.ep+1) % 2=r.nd then r.ep+1 else r.ep+2
def Ro.oM (r:Ro):Nat:=if 1073741824 < r.nx then 2 else 0
def Ro.jQ (r:Ro):Int:=if 1073741824 < r.nx then 0 else r.nx
def Ro.mM (r:Ro) (n:Int):Nat:=if r.ac then 11 else if 1073741824 < r.nx then 2 else if n=r.nx then 0 else 3
def Ro.claim (r:Ro) (n:Int):Ro:=if r.mM n=0 then ⟨r.nd,n,r.si,true⟩ else r
def Ro.heard (r:Ro) (n:Int):Bool:=gJ n && !decide (n < r.ep)
def Ro.falls (r:Ro) (n:Int):Bool:=r.heard n && (r.ac && decide (r.ep < n))
def Ro.hear (r:Ro) (n:Int):Ro:=if r.heard n then ⟨r.nd,n,0,r.ac && !decide (r.ep < n)⟩ else r
theorem Ro.Ok.new {nd ep:Int} (h:nd=0\/nd=1) (a:0<=ep) (e:ep<=1073741824):(Ro.new nd ep).Ok:=⟨h,a,e,yO _,by show(0:Int)<=10;omega⟩
theorem Ro.Ok.tick {r:Ro} (h:r.Ok):r.tick.Ok:=by
 obtain⟨a,e,f,i,j⟩:=h;unfold Ro.tick;split
 ·exact⟨a,e,f,i,j⟩
 ·refine⟨a,e,f,?_,?_⟩ <;> (show _<=_;simp only[Ro.Xf];split <;> omega)
theorem Ro.aeh {r:Ro}:r.ep < r.nx/\r.nx<=r.ep+2:=by unfold Ro.nx;split <;> omega
theorem Ro.Ok.claim {r:Ro} (h:r.Ok) (n:Int):(r.claim n).Ok:=by
 obtain⟨e,j,k,f,i⟩:=h;have:=r.aeh;unfold Ro.claim;split
 ·rename_i a;have l:n=r.nx/\r.nx<=1073741824:=by
   unfold Ro.mM at a;split at a
   ·cases a
   ·split at a
    ·cases a
    ·split at a
     ·exact⟨by assumption,by omega⟩
     ·cases a
  exact⟨e,by show 0<=n;omega,by show n<=_;omega,f,i⟩
 ·exact⟨e,j,k,f,i⟩
theorem Ro.Ok.hear {r:Ro} (h:r.Ok) (n:Int):(r.hear n).Ok:=by
 unfold Ro.hear;split
 ·rename_i a;have:gJ n=true:=by
   unfold Ro.heard at a;simp at a;exact a.1
  obtain⟨e,k1⟩:=yP.1 this;exact⟨h.n,e,k1,yO _,by show(0:Int)<=10;omega⟩
 ·exact h
section
variable {w w':World} {b:Nat}
theorem bP {P:Program} {e:Array Oper} {rest:List Oper} {o:Oper} {a:Act} {Q:Exit->Act->World->Prop} (f:o.guard=none) (i:TypeId) (x:Operand) (j:o.op=.load i x)
  (u v:Value) (k:a.eval x=u) (l:(Instr.loadAt i u).run P w=.ok v w) (h:wpList P e Q rest (a.put o.dst v) w):wpList P e Q (o::rest) a w :=
 Xd f fun K m=>by
  unfold Oper.wp execOp;simp only[j,k,nM,l,pR,qX];exact m _ _ h
theorem eF {a:Addr} {v:Value} (e:w.cell? a=some v):a.block < w.heap.size:=by
 rcases dX a.block w with h | h
 ·exact h
 ·simp[World.cell?,Array.getElem?_eq_none h]at e
theorem tk (h:Below w w w') {a:Addr} {v:Value} (e:w.cell? a=some v):w'.cell? a=some v:=by
 rw[h.cell (p:=a) (eF e)];exact e
theorem t2 {a b c:World} (h:Below a a b) (k:Below b b c):Below a a c:=h.trans (k.mono h.size)
theorem nw (w:World) (cs:Array Value) (t:TypeId) (j:Nat):(w.alloc (.cells cs t)).cell? (w.heap.size,j)=cs[j]? := aP _ _ _ _ _ _ (dh w _)
structure aC (b:Nat) (w w':World):Prop where
 os:w'.os=w.os
 tape:w'.tape=w.tape
 output:w'.output=w.output
 size:w.heap.size<=w'.heap.size
 block:∀k,k < w.heap.size->k≠b->w'.heap[k]? = w.heap[k]?
theorem aC.of (h:Below w w w'):aC b w w':=⟨h.os,h.tape,h.output,h.size,fun k a _=>h.block k a⟩
theorem aC.trans {u v:World} (h:aC b u v) (k:aC b v w):aC b u w :=
 ⟨k.os.trans h.os,k.tape.trans h.tape,k.output.trans h.output,dL h.size k.size,fun i a e=>(k.block i (ji a h.size) e).trans (h.block i a e)⟩
theorem aC.refl (b:Nat) (w:World):aC b w w:=aC.of bR
theorem aC.then {u v:World} (h:aC b u v) (k:Below v v w):aC b u w:=h.trans (aC.of k)
theorem aC.set (b j:Nat) (w:World) (u:Value):aC b w (w.setCell (b,j) u) :=
 ⟨rfl,rfl,rfl,by simp[World.setCell],fun k _ a=>Below.heap_setCell _ _ _ _ a⟩
theorem aC.below {w0:World} (h:Below w0 w0 w) (k:aC b w w') (e:w0.heap.size<=b):Below w0 w0 w' :=
 h.trans ⟨k.os,k.tape,k.output,k.size,fun i a=>k.block i (ji a h.size) om⟩
theorem aC.keeps (h:aC b w w') {a:Addr} {v:Value} (f:a.block≠b) (e:w.cell? a=some v):w'.cell? a=some v:=by
 rw[dV (w:=w) (h.block a.block (eF e) f)];exact e
def aO (s:Nat->Addr):Nat->Value
 | 0=>.nilIface
 | k+1=>.iface 359 (.pointer (some (s k)))
theorem aB (w:World) (o:Obj):Below w w (w.alloc o):=(aH _ _).alloc nL _
end
section
variable {w w' v:World} {m g:Nat}
theorem aV {a:Addr} (h:w'.heap[a.block]? = w.heap[a.block]?):w'.frozen? a=w.frozen? a:=by
 unfold World.frozen?;rw[h]
structure bW (m g:Nat) (w w':World):Prop where
 os:w'.os=w.os
 tape:w'.tape=w.tape
 output:w'.output=w.output
 size:w.heap.size<=w'.heap.size
 block:∀k,k < w.heap.size->k≠m->k≠g->w'.heap[k]? = w.heap[k]?
theorem bW.refl (m g:Nat) (w:World):bW m g w w:=⟨rfl,rfl,rfl,bJ _,fun _ _ _ _=>rfl⟩
theorem bW.then {v':World} (h:bW m g w v) (k:Below v v v'):bW m g w v' :=
 ⟨k.os.trans h.os,k.tape.trans h.tape,k.output.trans h.output,dL h.size k.size,fun i a e f=>(k.block i (ji a h.size)).trans (h.block i a e f)⟩
theorem bW.on {b:Nat} {v':World} (h:bW m g w v) (k:aC b v v') (a:b=m\/b=g\/w.heap.size<=b):bW m g w v' :=
 ⟨k.os.trans h.os,k.tape.trans h.tape,k.output.trans h.output,dL h.size k.size,fun i f j l=>(k.block i (ji f h.size) (fun e=>by
  rcases a with rfl | rfl | a
  ·exact j e
  ·exact l e
  ·omega)).trans (h.block i f j l)⟩
theorem bW.keeps (h:bW m g w w') {a:Addr} {v:Value} (f:a.block≠m) (i:a.block≠g) (e:w.cell? a=some v):w'.cell? a=some v:=by
 rw[dV (w:=w) (h.block a.block (eF e) f i)];exact e
theorem bW.below {w0:World} (h:Below w0 w0 w) (k:bW m g w w') (e:w0.heap.size<=m) (f:w0.heap.size<=g):Below w0 w0 w' :=
 h.trans ⟨k.os,k.tape,k.output,k.size,fun i a=>k.block i (ji a h.size) om om⟩
theorem bW.trans {u:World} (h:bW m g u v) (k:bW m g v w):bW m g u w :=
 ⟨k.os.trans h.os,k.tape.trans h.tape,k.output.trans h.output,dL h.size k.size,fun i a e f=>(k.block i (ji a h.size) e f).trans (h.block i a e f)⟩
theorem bW.of (h:Below w w w'):bW m g w w':=(bW.refl m g w).then h
theorem FW {b:Nat} (h:w.grownBy w' (some b)):aC b w w':=⟨h.os,h.tape,h.output,h.size,fun k a e=>h.block k a (by simpa using e)⟩
end
section
variable {w w':World} {b:Nat} {r:Ro}
structure Se3 (w:World) (s:Nat->Addr):Prop where
 c1:w.cell? (0,0)=some (.iface 359 (.pointer (some (s 1))))
 c2:w.cell? (7,0)=some (.iface 359 (.pointer (some (s 2))))
 c10:w.cell? (3,0)=some (.iface 359 (.pointer (some (s 10))))
theorem Se3.below {s:Nat->Addr} (S:Se3 w s) (a:Below w w w'):Se3 w' s:=⟨tk a S.c1,tk a S.c2,tk a S.c10⟩
def lS (w:World) (b:Nat) (r:Ro):Prop:=w.heap[b]? = some (.cells #[r.nd,r.ep,r.si,.bool r.ac] 231 (0,0))
theorem lS.lt (h:lS w b r):b < w.heap.size:=by
 rcases dX b w with a | a
 ·exact a
 ·rw[lS,eP a]at h;cases h
theorem lS.below (h:lS w b r) (a:Below w w w'):lS w' b r:=by unfold lS;rw[a.block b h.lt];exact h
theorem lS.dO {d:Nat} (h:lS w b r) (a:aC d w w') (e:b≠d):lS w' b r:=by unfold lS;rw[a.block b h.lt e];exact h
theorem lS.c0 (h:lS w b r):w.cell? (b,0)=r.nd:=(aP w b _ _ _ _ h).trans rfl
theorem lS.c1 (h:lS w b r):w.cell? (b,1)=r.ep:=(aP w b _ _ _ _ h).trans rfl
theorem lS.c2 (h:lS w b r):w.cell? (b,2)=r.si:=(aP w b _ _ _ _ h).trans rfl
theorem lS.c3 (h:lS w b r):w.cell? (b,3)=some (.bool r.ac):=(aP w b _ _ _ _ h).trans rfl
theorem lS.fr (h:lS w b r) (i:Nat):w.frozen? (b,i)=false:=jk w b i _ _ h
theorem lS.ep (h:lS w b r) (x:Int):lS (w.setCell (b,1) x) b ⟨r.nd,x,r.si,r.ac⟩:=by unfold lS;rw[bV w b _ _ _ _ h];rfl
theorem lS.si (h:lS w b r) (x:Int):lS (w.setCell (b,2) x) b ⟨r.nd,r.ep,x,r.ac⟩:=by unfold lS;rw[bV w b _ _ _ _ h];rfl
theorem lS.ac (h:lS w b r) (x:Bool):lS (w.setCell (b,3) (.bool x)) b ⟨r.nd,r.ep,r.si,x⟩:=by unfold lS;rw[bV w b _ _ _ _ h];rfl
theorem dW (n:Int) (w:World):Calls prog 253 #[n] w fun e w'=>e=.returned (.bool (gJ n))/\w'=w:=by
 by_cases h:0<=n
 ·have a:Hid (gJ n=decide (n<=1073741824)):=by unfold gJ;rw[gG h];exact rfl
  go_enter func253,ntmps253;go_wp2_with fail;go_ret;exact⟨by rw[a.out];rfl,rfl⟩
 ·have a:Hid (gJ n=false):=by unfold gJ;rw[gQ h];exact rfl
  go_enter func253,ntmps253;go_wp2_with fail;go_ret;exact⟨by rw[a.out];rfl,rfl⟩
theorem dR (b:Nat) (r:Ro) (w:World) (R:lS w b r):Calls prog 162 #[.pointer (some (b,0))] w fun e w'=>e=.returned (.bool r.ac)/\w'=w:=by
 have c3:=R.c3;clear R;go_enter func162,ntmps162;go_wp2_with fail;go_ret;exact⟨rfl,rfl⟩
theorem wB (b:Nat) (r:Ro) (w:World) (R:lS w b r):Calls prog 112 #[.pointer (some (b,0))] w fun e w'=>e=.returned r.ep/\w'=w:=by
 have c1:=R.c1;clear R;go_enter func112,ntmps112;go_wp2_with fail;go_ret;exact⟨rfl,rfl⟩
theorem Xg (b:Nat) (r:Ro) (w:World) (R:lS w b r) (K:r.Ok):Calls prog 222 #[.pointer (some (b,0))] w fun e w'=>e=.returned (.bool r.rings)/\lS w' b r.tick/\aC b w w':=by
 obtain⟨nd,ep,si,ac⟩:=r;have f:Hid (lS w b ⟨nd,ep,si,ac⟩):=R;have j:0<=si:=K.s0;have k1:si<=10:=K.s1;have c2:=R.c2;have c3:=R.c3;have k:=R.fr 2;clear R K;simp only at c2 c3
 cases ac
 ·by_cases a:si<=9
  ·have h:Hid ((⟨nd,ep,si,false⟩:Ro).rings=decide (9 < si+1)):=by show(if false=true then false else decide (9 < (if si<=9 then si+1 else si)))=_;rw[aj a];rfl
   have i:Hid ((⟨nd,ep,si,false⟩:Ro).tick=⟨nd,ep,si+1,false⟩):=by show(if false=true then _ else (⟨nd,ep,if si<=9 then si+1 else si,false⟩:Ro))=_;rw[aj a];rfl
   have l:IntKind.i64.wrap (si+1)=si+1:=by rw[iI];omega
   have m:=BP w (b,2) (.int .i64 (si+1)) c2;go_enter func222,ntmps222;go_wp2_with fail;go_ret;exact⟨by rw[h.out];rfl,by rw[i.out];exact f.si _,aC.set _ _ _ _⟩
  ·have h:Hid ((⟨nd,ep,si,false⟩:Ro).rings=true):=by show(if false=true then false else decide (9 < (if si<=9 then si+1 else si)))=_;rw[ak a];simp;omega
   have i:Hid ((⟨nd,ep,si,false⟩:Ro).tick=⟨nd,ep,si,false⟩):=by show(if false=true then _ else (⟨nd,ep,if si<=9 then si+1 else si,false⟩:Ro))=_;rw[ak a];rfl
   go_enter func222,ntmps222;go_wp2_with fail;go_ret;exact⟨by rw[h.out];rfl,by rw[i.out];exact f,aC.refl _ _⟩
 ·go_enter func222,ntmps222;go_wp2_with fail;go_ret;exact⟨rfl,f,aC.refl _ _⟩
theorem acg (nd ep:Int) (w:World) (h:nd=0\/nd=1) (a:0<=ep) (f:ep<=1073741824) :
  Calls prog 215 #[nd,ep] w fun e w'=>(e=.returned (.tuple #[.pointer (some (w.heap.size,0)),.nilIface])/\lS w' w (Ro.new nd ep))/\Below w w w':=by
 have i:Hid (gJ ep=true):=yP.2 ⟨a,f⟩;clear a f;rcases h with rfl | rfl;all_goals
  go_enter func215,ntmps215;go_wp2_with fail;refine(dW ep w).mono ?_;rintro e w' ⟨rfl,rfl⟩;rw[i.out];go_wp2_with fail;go_ret2;exact⟨⟨rfl,dh _ _⟩,aB _ _⟩
theorem Rf {n:Int} (h:0<=n):Int.tmod n 2=n % 2:=aeF h
theorem next_any (b:Nat) (r:Ro) (s:Nat->Addr) (w:World) (R:lS w b r) (K:r.Ok) (S:Se3 w s) :
  Calls prog 259 #[.pointer (some (b,0))] w fun e w'=>e=.returned (.tuple #[r.jQ,aO s r.oM])/\Below w w w':=by
 obtain⟨nd,ep,si,ac⟩:=r;have p:0<=ep:=K.e0;have k1:ep<=1073741824:=K.e1;have q:w.cell? (b,0)=nd:=R.c0;have u:w.cell? (b,1)=ep:=R.c1;have c1:=S.c1;clear R K S;have y:IntKind.i64.wrap (ep+1)=ep+1:=by rw[iI];omega
 have o:IntKind.i64.wrap (ep+1+1)=ep+2:=by rw[iI];omega
 have z:=Rf (n:=ep+1) om;have k:∀x:Int,Hid ((⟨nd,ep,si,ac⟩:Ro).nx=x)->0<=x->Hid (gJ x=!decide (1073741824 < x)):=fun x _ h=>by
  show(decide (0<=x) && decide (x<=1073741824))=_;rw[gG h,Bool.true_and];by_cases a:1073741824 < x
  ·rw[gG a,gQ om];rfl
  ·rw[gQ a,gG om];rfl
 by_cases l:(ep+1) % 2=nd
 ·have j:Hid ((⟨nd,ep,si,ac⟩:Ro).nx=ep+1):=by show(if _ then _ else _)=_;rw[aj l]
  have i:=k _ j om;clear k;have m:((ep+1) % 2==nd)=true:=xI.2 l;by_cases a:1073741824 < ep+1
  ·have f:Hid ((⟨nd,ep,si,ac⟩:Ro).jQ=0/\(⟨nd,ep,si,ac⟩:Ro).oM=2):=by show _/\_;unfold Ro.jQ Ro.oM;rw[j.out,aj a,aj a];exact⟨rfl,rfl⟩
   rw[gG a]at i;go_enter func259,ntmps259;go_wp2_with fail;refine(dW _ w).mono ?_;rintro e w' ⟨rfl,rfl⟩;rw[i.out];go_wp2_with fail;go_region;go_wp2_with fail;go_ret2;exact⟨by rw[f.1,f.2];rfl,bD⟩
  ·have f:Hid ((⟨nd,ep,si,ac⟩:Ro).jQ=ep+1/\(⟨nd,ep,si,ac⟩:Ro).oM=0):=by show _/\_;unfold Ro.jQ Ro.oM;rw[j.out,ak a,ak a];exact⟨rfl,rfl⟩
   rw[gQ a]at i;go_enter func259,ntmps259;go_wp2_with fail;refine(dW _ w).mono ?_;rintro e w' ⟨rfl,rfl⟩;rw[i.out];go_wp2_with fail;go_ret2;exact⟨by rw[f.1,f.2];rfl,aH _ _⟩
 ·have j:Hid ((⟨nd,ep,si,ac⟩:Ro).nx=ep+2):=by show(if _ then _ else _)=_;rw[ak l]
  have i:=k _ j om;clear k;have m:((ep+1) % 2==nd)=false:=dG.2 l;by_cases a:1073741824 < ep+2
  ·have f:Hid ((⟨nd,ep,si,ac⟩:Ro).jQ=0/\(⟨nd,ep,si,ac⟩:Ro).oM=2):=by show _/\_;unfold Ro.jQ Ro.oM;rw[j.out,aj a,aj a];exact⟨rfl,rfl⟩
   rw[gG a]at i;go_enter func259,ntmps259;go_wp2_with fail;refine(dW _ w).mono ?_;rintro e w' ⟨rfl,rfl⟩;rw[i.out];go_wp2_with fail;go_region;go_wp2_with fail;go_ret2;exact⟨by rw[f.1,f.2];rfl,bD⟩
  ·have f:Hid ((⟨nd,ep,si,ac⟩:Ro).jQ=ep+2/\(⟨nd,ep,si,ac⟩:Ro).oM=0):=by show _/\_;unfold Ro.jQ Ro.oM;rw[j.out,ak a,ak a];exact⟨rfl,rfl⟩
   rw[gQ a]at i;go_enter func259,ntmps259;go_wp2_with fail;refine(dW _ w).mono ?_;rintro e w' ⟨rfl,rfl⟩;rw[i.out];go_wp2_with fail;go_ret2;exact⟨by rw[f.1,f.2];rfl,aH _ _⟩
end
theorem TR (b:Nat) (r:Ro) (n:Int) (s:Nat->Addr) (w:World) (R:lS w b r) (K:r.Ok) (S:Se3 w s) :
  Calls prog 261 #[.pointer (some (b,0)),n] w fun e w'=>e=.returned (aO s (r.mM n))/\lS w' b (r.claim n)/\aC b w w':=by
 have f:Hid (lS w b r):=R;have z:Hid r.Ok:=K;have q:Hid (Se3 w s):=S;clear R K S
 cases a:r.ac
 ·by_cases i:1073741824 < r.nx
  ·have h:Hid (r.mM n=2):=by show _=_;unfold Ro.mM;rw[a,ak sM,aj i]
   have m:Hid (r.claim n=r):=by show _=_;unfold Ro.claim;rw[h.out];rfl
   have o:Hid (r.jQ=0/\r.oM=2):=by show _/\_;unfold Ro.jQ Ro.oM;rw[aj i,aj i];exact⟨rfl,rfl⟩
   have p:Hid (r.ac=false):=a;clear a i;go_enter func261,ntmps261;go_wp2_with fail;refine(dR b r w f).mono ?_;rintro e j ⟨rfl,rfl⟩;rw[p.out];go_wp2_with fail;refine(next_any b r s _ f z q).mono ?_;rintro e w2 ⟨rfl,l⟩;have k:Hid (Below j j w2):=l;clear l;rw[o.1,o.2];simp only[aO];go_wp2_with fail;go_ret;exact⟨by rw[h.out];rfl,by rw[m.out];exact f.below k,aC.of k.out⟩
  ·have o:Hid (r.jQ=r.nx/\r.oM=0):=by show _/\_;unfold Ro.jQ Ro.oM;rw[ak i,ak i];exact⟨rfl,rfl⟩
   by_cases y:n=r.nx
   ·have h:Hid (r.mM n=0):=by show _=_;unfold Ro.mM;rw[a,ak sM,ak i,aj y]
    have m:Hid (r.claim n=⟨r.nd,n,r.si,true⟩):=by show _=_;unfold Ro.claim;rw[h.out];rfl
    have p:Hid (r.ac=false):=a;have B:Hid (r.nx=n):=y.symm;clear a i y;go_enter func261,ntmps261;go_wp2_with fail;refine(dR b r w f).mono ?_;rintro e j ⟨rfl,rfl⟩;rw[p.out];go_wp2_with fail;refine(next_any b r s _ f z q).mono ?_;rintro e w2 ⟨rfl,l⟩;have k:Hid (Below j j w2):=l;clear l;rw[o.1,o.2,B.out];simp only[aO];have u:Hid (lS w2 b r):=f.below k;have c1:=u.c1;have c3:=u.c3;have D:=u.fr 1;have E:=u.fr 3;go_wp2_with fail;go_ret;exact⟨by rw[h.out];rfl,by rw[m.out];exact(u.ep n).ac true,((aC.of k.out).trans (aC.set _ _ _ _)).trans (aC.set _ _ _ _)⟩
   ·have h:Hid (r.mM n=3):=by show _=_;unfold Ro.mM;rw[a,ak sM,ak i,ak y]
    have m:Hid (r.claim n=r):=by show _=_;unfold Ro.claim;rw[h.out];rfl
    have p:Hid (r.ac=false):=a;clear a i;generalize A:r.nx=x at *;have F:Hid (r.nx=x):=A;clear A;go_enter func261,ntmps261;go_wp2_with fail;refine(dR b r w f).mono ?_;rintro e j ⟨rfl,rfl⟩;rw[p.out];go_wp2_with fail;refine(next_any b r s _ f z q).mono ?_;rintro e w2 ⟨rfl,l⟩;have k:Hid (Below j j w2):=l;clear l;rw[o.1,o.2];simp only[aO];have G:=(q.below k).c2;go_wp2_with fail;go_ret;exact⟨by rw[h.out];rfl,by rw[m.out];exact f.below k,aC.of k.out⟩
 ·have h:Hid (r.mM n=11):=by show _=_;unfold Ro.mM;rw[a,aj rfl]
  have m:Hid (r.claim n=r):=by show _=_;unfold Ro.claim;rw[h.out];rfl
  have p:Hid (r.ac=true):=a;clear a;have C:=q.c10;go_enter func261,ntmps261;go_wp2_with fail;refine(dR b r w f).mono ?_;rintro e j ⟨rfl,rfl⟩;rw[p.out];go_wp2_with fail;go_ret;exact⟨by rw[h.out];rfl,by rw[m.out];exact f,aC.refl _ _⟩
structure Rl1 (w0 w:World) (b:Nat) (r:Ro):Prop where
 y:lS w b r
 k:r.Ok
 hb:w0.heap.size<=b
 bl:Below w0 w0 w
theorem Rl1.below {w0 w w':World} {b:Nat} {r:Ro} (h:Rl1 w0 w b r) (k:Below w w w'):Rl1 w0 w' b r:=⟨h.y.below k,h.k,h.hb,t2 h.bl k⟩
theorem Xh (b:Nat) (r:Ro) (n:Int) (w:World) (R:lS w b r) :
  Calls prog 228 #[.pointer (some (b,0)),n] w fun e w'=>e=.returned (.bool (r.falls n))/\lS w' b (r.hear n)/\aC b w w':=by
 obtain⟨nd,ep,si,ac⟩:=r;have k:Hid (lS w b ⟨nd,ep,si,ac⟩):=R;have p:w.cell? (b,1)=ep:=R.c1;have q:w.cell? (b,2)=si:=R.c2;have s:w.cell? (b,3)=some (.bool ac):=R.c3;have u:=R.fr 1;have x:=R.fr 2;have y:=R.fr 3;clear R
 cases h:gJ n
 ·have j:Hid (gJ n=false):=h;have i:Hid ((⟨nd,ep,si,ac⟩:Ro).heard n=false):=by show _=_;unfold Ro.heard;rw[h];rfl
  have a:Hid ((⟨nd,ep,si,ac⟩:Ro).falls n=false):=by show _=_;unfold Ro.falls;rw[i.out];rfl
  have f:Hid ((⟨nd,ep,si,ac⟩:Ro).hear n=⟨nd,ep,si,ac⟩):=by show _=_;unfold Ro.hear;rw[i.out];rfl
  clear h;go_enter func228,ntmps228;go_wp2_with fail;refine(dW n w).mono ?_;rintro e l ⟨rfl,rfl⟩;rw[j.out];go_wp2_with fail;go_ret;exact⟨by rw[a.out];rfl,by rw[f.out];exact k,aC.refl _ _⟩
 ·have j:Hid (gJ n=true):=h;by_cases o:n < ep
  ·have i:Hid ((⟨nd,ep,si,ac⟩:Ro).heard n=false):=by show _=_;unfold Ro.heard;rw[h];simp[o]
   have a:Hid ((⟨nd,ep,si,ac⟩:Ro).falls n=false):=by show _=_;unfold Ro.falls;rw[i.out];rfl
   have f:Hid ((⟨nd,ep,si,ac⟩:Ro).hear n=⟨nd,ep,si,ac⟩):=by show _=_;unfold Ro.hear;rw[i.out];rfl
   clear h;go_enter func228,ntmps228;go_wp2_with fail;refine(dW n w).mono ?_;rintro e l ⟨rfl,rfl⟩;rw[j.out];go_wp2_with fail;go_ret;exact⟨by rw[a.out];rfl,by rw[f.out];exact k,aC.refl _ _⟩
  ·have i:Hid ((⟨nd,ep,si,ac⟩:Ro).heard n=true):=by show _=_;unfold Ro.heard;rw[h];simp[o]
   have a:Hid ((⟨nd,ep,si,ac⟩:Ro).falls n=(ac && decide (ep < n))):=by show _=_;unfold Ro.falls;rw[i.out];rfl
   have f:Hid ((⟨nd,ep,si,ac⟩:Ro).hear n=⟨nd,n,0,ac && !decide (ep < n)⟩):=by show _=_;unfold Ro.hear;rw[i.out];rfl
   clear h
   cases ac
   ·go_enter func228,ntmps228;go_wp2_with fail;refine(dW n w).mono ?_;rintro e l ⟨rfl,rfl⟩;rw[j.out];go_wp2_with fail;go_ret;exact⟨by rw[a.out];rfl,by rw[f.out];exact((k.ac false).ep n).si 0,((aC.set _ _ _ _).trans (aC.set _ _ _ _)).trans (aC.set _ _ _ _)⟩
   ·by_cases m:ep < n
    ·rw[gG m]at a f;go_enter func228,ntmps228;go_wp2_with fail;refine(dW n w).mono ?_;rintro e l ⟨rfl,rfl⟩;rw[j.out];go_wp2_with fail;go_ret;exact⟨by rw[a.out];rfl,by rw[f.out];exact((k.ac false).ep n).si 0,((aC.set _ _ _ _).trans (aC.set _ _ _ _)).trans (aC.set _ _ _ _)⟩
    ·rw[gQ m]at a f;have z:decide (ep < n)=false:=gQ m;clear m;go_enter func228,ntmps228;go_wp2_with fail;refine(dW n w).mono ?_;rintro e l ⟨rfl,rfl⟩;rw[j.out];go_wp2_with fail;go_ret;exact⟨by rw[a.out];rfl,by rw[f.out];exact((k.ac true).ep n).si 0,((aC.set _ _ _ _).trans (aC.set _ _ _ _)).trans (aC.set _ _ _ _)⟩
section
variable {i n:Int} {w:World} {b:Nat}
def Ro.lC (q:Ro):Ro:=if q.ac then q else ⟨q.nd,q.ep,q.si+1,false⟩
def Ro.Xi (q:Ro):Bool:=if q.ac then false else decide (9 < q.si+1)
def Ro.mW (q:Ro) (n:Int):Ro:=if gJ n then (if q.ep < n then ⟨q.nd,n,0,false⟩ else if q.ac=false/\n=q.ep then ⟨q.nd,q.ep,0,false⟩ else q) else q
def Ro.lD (q:Ro) (n:Int):Bool:=if gJ n then (if q.ep < n then q.ac else false) else false
structure Fj (r q:Ro) (i:Int):Prop where
 k:r.Ok
 nd:q.nd=r.nd
 ep:q.ep=r.ep
 ac:q.ac=r.ac
 s0:0<=q.si
 s1:q.si<=i
 si:r.ac=false->r.si=if q.si<=9 then q.si else 10
theorem Fj.new {nd ep:Int} (h:nd=0\/nd=1) (a:0<=ep) (e:ep<=1073741824):Fj (Ro.new nd ep) ⟨nd,ep,0,false⟩ 0:=⟨.new h a e,rfl,rfl,rfl,yO _,yO _,fun _=>rfl⟩
theorem Fj.mono {r q:Ro} {j:Int} (h:Fj r q i) (a:i<=j):Fj r q j:=⟨h.k,h.nd,h.ep,h.ac,h.s0,by have:=h.s1;omega,h.si⟩
theorem Fj.tick {r q:Ro} (h:Fj r q i):Fj r.tick q.lC (i+1)/\q.Xi=r.rings:=by
 have u:=h.k.tick;obtain⟨k,j,l,m,s0,s1,f⟩:=h;obtain⟨nd,ep,si,ac⟩:=r;obtain⟨x,y,a,p⟩:=q;simp only at j l m s0 s1 f;subst j l m
 cases p
 ·have f:=f rfl;have e:(if si<=9 then si+1 else si)=if a+1<=9 then a+1 else 10:=by
   rw[f];by_cases s:a<=9
   ·rw[aj s,aj s];by_cases o:a+1<=9
    ·rw[aj o]
    ·rw[ak o];omega
   ·rw[ak s,ak om,ak om]
  refine⟨⟨u,rfl,rfl,rfl,by show 0<=a+1;omega,by show a+1<=i+1;omega,fun _=>e⟩,?_⟩;show decide (9 < a+1)=decide (9 < (if si<=9 then si+1 else si));rw[e];by_cases o:a+1<=9
  ·rw[aj o]
  ·rw[ak o];exact(gG om).trans (gG om).symm
 ·exact⟨⟨u,rfl,rfl,rfl,s0,by show a<=i+1;omega,fun h=>by cases h⟩,rfl⟩
theorem Fj.nx {r q:Ro} (h:Fj r q i):q.nx=r.nx:=by unfold Ro.nx;rw[h.nd,h.ep]
theorem Fj.mM {r q:Ro} (h:Fj r q i) (n:Int):q.mM n=r.mM n:=by unfold Ro.mM;rw[h.ac,h.nx]
theorem Fj.claim {r q:Ro} (h:Fj r q i) (n:Int):Fj (r.claim n) (q.claim n) i:=by
 have f:=h.k.claim n;have e:=h.mM n;revert f
 unfold Ro.claim;rw[e];intro f;by_cases a:r.mM n=0
 ·rw[aj a]at f;rw[aj a,aj a];exact⟨f,h.nd,rfl,rfl,h.s0,h.s1,fun h=>by cases h⟩
 ·rw[ak a,ak a];exact h
theorem Ro.Rh {r:Ro} (h:gJ n=false\/n < r.ep):r.hear n=r/\r.falls n=false:=by
 have a:r.heard n=false:=by
  unfold Ro.heard;rcases h with h | h
  ·rw[h];rfl
  ·rw[gG h];simp
 unfold Ro.hear Ro.falls;rw[a];exact⟨rfl,rfl⟩
theorem Ro.Il {r:Ro} (h:gJ n=true) (a:r.ep < n):r.hear n=⟨r.nd,n,0,false⟩/\r.falls n=r.ac:=by
 have e:r.heard n=true:=by
  unfold Ro.heard;rw[h,gQ om];rfl
 unfold Ro.hear Ro.falls;rw[e,gG a];simp
theorem Ro.ach {r:Ro} (h:gJ r.ep=true):r.hear r.ep=⟨r.nd,r.ep,0,r.ac⟩/\r.falls r.ep=false:=by
 have a:r.heard r.ep=true:=by
  unfold Ro.heard;rw[h,gQ om];rfl
 unfold Ro.hear Ro.falls;rw[a,gQ om];simp
theorem Ro.Cj {r:Ro} (h:gJ n=false\/n < r.ep):r.mW n=r/\r.lD n=false:=by
 unfold Ro.mW Ro.lD
 cases a:gJ n
 ·exact⟨rfl,rfl⟩
 ·have h:n < r.ep:=h.resolve_left (by rw[a];simp);rw[aj rfl,ak om,ak om,aj rfl,ak om];exact⟨rfl,rfl⟩
theorem Ro.Cm {r:Ro} (h:gJ n=true) (a:r.ep < n):r.mW n=⟨r.nd,n,0,false⟩/\r.lD n=r.ac:=by
 unfold Ro.mW Ro.lD;rw[h,aj rfl,aj a,aj rfl,aj a];exact⟨rfl,rfl⟩
theorem Ro.JL {r:Ro} (h:gJ r.ep=true):r.mW r.ep=(if r.ac=false then ⟨r.nd,r.ep,0,false⟩ else r)/\r.lD r.ep=false:=by
 unfold Ro.mW Ro.lD;have e:¬r.ep < r.ep:=by omega
 rw[h,aj rfl,ak e,aj rfl,ak e];refine⟨?_,rfl⟩;by_cases a:r.ac=false
 ·rw[aj ⟨a,rfl⟩,aj a]
 ·rw[ak (fun x=>a x.1),ak a]
theorem Fj.hear {r q:Ro} (h:Fj r q i) (n:Int):Fj (r.hear n) (q.mW n) i/\q.lD n=r.falls n:=by
 have j:=h.k.hear n;have s:0<=i:=by have:=h.s0;have:=h.s1;omega
 have a:=h.ep;by_cases e:gJ n=false\/n < r.ep
 ·rw[(Ro.Rh e).1,(Ro.Rh e).2,(Ro.Cj (a ▸ e)).1,(Ro.Cj (a ▸ e)).2];exact⟨h,rfl⟩
 ·have f:gJ n=true:=by
   cases f:gJ n
   ·exact absurd (Or.inl f) e
   ·rfl
  have y:¬n < r.ep:=fun x=>e (Or.inr x);by_cases l:r.ep < n
  ·rw[(Ro.Il f l).1]at j;rw[(Ro.Il f l).1,(Ro.Il f l).2,(Ro.Cm f (a ▸ l)).1,(Ro.Cm f (a ▸ l)).2];exact⟨⟨j,h.nd,rfl,rfl,yO _,s,fun _=>rfl⟩,h.ac⟩
  ·obtain rfl:n=r.ep:=by omega
   have o:=Ro.ach f;have p:=Ro.JL (r:=q) (by rw[a];exact f);rw[a]at p;rw[o.1]at j;rw[o.1,o.2,p.1,p.2];refine⟨?_,rfl⟩;by_cases m:q.ac=false
   ·rw[aj m];exact⟨j,h.nd,rfl,by rw[<- h.ac];exact m.symm,yO _,s,fun _=>rfl⟩
   ·rw[ak m];exact⟨j,h.nd,h.ep,h.ac,h.s0,h.s1,fun u=>absurd (h.ac.trans u) m⟩
def dJ (w:World) (b:Nat) (r:Ro):Prop:=w.heap[b]? = some (.cells #[r.nd,r.ep,r.si,.bool r.ac] 74 (0,0))
theorem dJ.lt {r:Ro} (h:dJ w b r):b < w.heap.size:=by
 rcases dX b w with a | a
 ·exact a
 ·rw[dJ,eP a]at h;cases h
theorem dJ.below {w':World} {r:Ro} (h:dJ w b r) (a:Below w w w'):dJ w' b r:=by unfold dJ;rw[a.block b h.lt];exact h
theorem dJ.dO {w':World} {d:Nat} {r:Ro} (h:dJ w b r) (a:aC d w w') (e:b≠d):dJ w' b r:=by unfold dJ;rw[a.block b h.lt e];exact h
theorem dJ.c0 {r:Ro} (h:dJ w b r):w.cell? (b,0)=r.nd:=(aP w b _ _ _ _ h).trans rfl
theorem dJ.c1 {r:Ro} (h:dJ w b r):w.cell? (b,1)=r.ep:=(aP w b _ _ _ _ h).trans rfl
theorem dJ.c2 {r:Ro} (h:dJ w b r):w.cell? (b,2)=r.si:=(aP w b _ _ _ _ h).trans rfl
theorem dJ.c3 {r:Ro} (h:dJ w b r):w.cell? (b,3)=some (.bool r.ac):=(aP w b _ _ _ _ h).trans rfl
theorem dJ.fr {r:Ro} (h:dJ w b r) (i:Nat):w.frozen? (b,i)=false:=jk w b i _ _ h
theorem dJ.ep {r:Ro} (h:dJ w b r) (x:Int):dJ (w.setCell (b,1) x) b ⟨r.nd,x,r.si,r.ac⟩:=by unfold dJ;rw[bV w b _ _ _ _ h];rfl
theorem dJ.si {r:Ro} (h:dJ w b r) (x:Int):dJ (w.setCell (b,2) x) b ⟨r.nd,r.ep,x,r.ac⟩:=by unfold dJ;rw[bV w b _ _ _ _ h];rfl
theorem dJ.ac {r:Ro} (h:dJ w b r) (x:Bool):dJ (w.setCell (b,3) (.bool x)) b ⟨r.nd,r.ep,r.si,x⟩:=by unfold dJ;rw[bV w b _ _ _ _ h];rfl
theorem TS (b:Nat) (q:Ro) (w:World) (R:dJ w b q) (a:0<=q.si) (f:q.si<=1000000):Calls prog 119 #[.pointer (some (b,0))] w fun e w'=>e=.returned (.bool q.Xi)/\dJ w' b q.lC/\aC b w w':=by
 obtain⟨nd,ep,si,ac⟩:=q;have h:Hid (dJ w b ⟨nd,ep,si,ac⟩):=R;have c2:w.cell? (b,2)=si:=R.c2;have c3:w.cell? (b,3)=some (.bool ac):=R.c3;have j:=R.fr 2;have k:0<=si:=a;have k1:si<=1000000:=f;clear R a f
 cases ac
 ·have l:IntKind.i64.wrap (si+1)=si+1:=by rw[iI];omega
  have m:=BP w (b,2) (.int .i64 (si+1)) c2;go_enter func119,ntmps119;go_wp2_with fail;go_ret;exact⟨rfl,h.si _,aC.set _ _ _ _⟩
 ·go_enter func119,ntmps119;go_wp2_with fail;go_ret;exact⟨rfl,h,aC.refl _ _⟩
theorem rC (b:Nat) (q:Ro) (w:World) (R:dJ w b q) (p:q.nd=0\/q.nd=1) (s:0<=q.ep) (u:q.ep<=1073741824) :
  Calls prog 120 #[.pointer (some (b,0))] w fun e w'=>e=.returned (.tuple #[q.jQ,.int .i64 (q.oM:Int)])/\w'=w:=by
 obtain⟨nd,ep,si,ac⟩:=q;have C:w.cell? (b,0)=nd:=R.c0;have D:w.cell? (b,1)=ep:=R.c1;have E:0<=ep:=s;have k1:ep<=1073741824:=u;have F:nd=0\/nd=1:=p;clear R s u p;have G:IntKind.i64.wrap (ep+1)=ep+1:=by rw[iI];omega
 have l:Hid ((⟨nd,ep,si,ac⟩:Ro).nx=if (ep+1) % 2=nd then ep+1 else ep+2):=(rfl:(⟨nd,ep,si,ac⟩:Ro).nx=if (ep+1) % 2=nd then ep+1 else ep+2);have o:Hid ((⟨nd,ep,si,ac⟩:Ro).jQ=(if 1073741824 < (⟨nd,ep,si,ac⟩:Ro).nx then 0 else (⟨nd,ep,si,ac⟩:Ro).nx)/\(⟨nd,ep,si,ac⟩:Ro).oM=(if 1073741824 < (⟨nd,ep,si,ac⟩:Ro).nx then 2 else 0)):=⟨rfl,rfl⟩;generalize (⟨nd,ep,si,ac⟩:Ro).nx=x at *;generalize (⟨nd,ep,si,ac⟩:Ro).jQ=xv at *;generalize (⟨nd,ep,si,ac⟩:Ro).oM=xe at *;go_enter func120,ntmps120;go_wp2_with fail;go_loopw [4] (fun t wr=>wr=w/\(t=.int .i64 (ep+1)\/(t=.int .i64 (ep+2)/\(ep+1) % 2≠nd))) (fun t _=>(ep+2).toNat - (intOf t).toNat)
 case atStart=>exact⟨rfl,Or.inl rfl⟩
 case round =>
  obtain⟨rfl,m⟩:=hrel;have fin:∀y:Int,x=y->Hid ((1073741824 < y->xv=0/\xe=2)/\(¬1073741824 < y->xv=y/\xe=0)):=fun y A=>by
   show _/\_;have:=o.out;rw[A]at this;constructor
   ·intro h;rw[aj h,aj h]at this;exact this
   ·intro h;rw[ak h,ak h]at this;exact this
  by_cases a:(ep+1) % 2=nd
  ·have m:=m.resolve_right (fun h=>h.2 a);subst m;have f:=fin (ep+1) (by rw[l.out,aj a]);clear fin o l;have z:=Rf (n:=ep+1) om;have j:((ep+1) % 2==nd)=true:=xI.2 a;by_cases k:1073741824 < ep+1
   ·obtain⟨rfl,rfl⟩:=f.1 k;go_wp2_with fail;go_ret2;exact⟨rfl,rfl⟩
   ·obtain⟨rfl,rfl⟩:=f.2 k;go_wp2_with fail;go_ret2;exact⟨rfl,rfl⟩
  ·have f:=fin (ep+2) (by rw[l.out,ak a]);clear fin o l;rcases m with rfl | ⟨rfl,_⟩
   ·have z:=Rf (n:=ep+1) om;have j:((ep+1) % 2==nd)=false:=dG.2 a;have B:IntKind.i64.wrap (ep+1+1)=ep+2:=by rw[iI];omega
    go_wp2_with fail;exact⟨⟨by trivial,Or.inr ⟨rfl,a⟩⟩,by simp[intOf];omega⟩
   ·have z:=Rf (n:=ep+2) om;have j:((ep+2) % 2==nd)=true:=xI.2 om;by_cases k:1073741824 < ep+2
    ·obtain⟨rfl,rfl⟩:=f.1 k;go_wp2_with fail;go_ret2;exact⟨rfl,rfl⟩
    ·obtain⟨rfl,rfl⟩:=f.2 k;go_wp2_with fail;go_ret2;exact⟨rfl,rfl⟩
end
section
variable {w0 w w':World} {b m:Nat} {r q:Ro}
theorem Ou (b:Nat) (q:Ro) (n:Int) (w:World) (R:dJ w b q) (k:q.nd=0\/q.nd=1) (s:0<=q.ep) (u:q.ep<=1073741824) :
  Calls prog 121 #[.pointer (some (b,0)),n] w fun e w'=>e=.returned (.int .i64 (q.mM n:Int))/\dJ w' b (q.claim n)/\aC b w w':=by
 have l:Hid (dJ w b q):=R;have j:Hid ((q.nd=0\/q.nd=1)/\0<=q.ep/\q.ep<=1073741824):=⟨k,s,u⟩;have c1:=R.c1;have c3:=R.c3;have B:=R.fr 1;have C:=R.fr 3;clear R k s u
 cases f:q.ac
 ·rw[f]at c3;by_cases i:1073741824 < q.nx
  ·have a:Hid (q.mM n=2):=by show _=_;unfold Ro.mM;rw[f,ak sM,aj i]
   have o:Hid (q.claim n=q):=by show _=_;unfold Ro.claim;rw[a.out];rfl
   have p:Hid (q.jQ=0/\q.oM=2):=by show _/\_;unfold Ro.jQ Ro.oM;rw[aj i,aj i];exact⟨rfl,rfl⟩
   clear f i;go_enter func121,ntmps121;go_wp2_with fail;refine(rC b q _ l j.1 j.2.1 j.2.2).mono ?_;rintro e w2 ⟨rfl,rfl⟩;rw[p.1,p.2];go_wp2_with fail;go_ret;exact⟨by rw[a.out];rfl,by rw[o.out];exact l,aC.refl _ _⟩
  ·have p:Hid (q.jQ=q.nx/\q.oM=0):=by show _/\_;unfold Ro.jQ Ro.oM;rw[ak i,ak i];exact⟨rfl,rfl⟩
   by_cases k:n=q.nx
   ·have a:Hid (q.mM n=0):=by show _=_;unfold Ro.mM;rw[f,ak sM,ak i,aj k]
    have o:Hid (q.claim n=⟨q.nd,n,q.si,true⟩):=by show _=_;unfold Ro.claim;rw[a.out];rfl
    have y:Hid (q.nx=n):=k.symm;clear f i k;go_enter func121,ntmps121;go_wp2_with fail;refine(rC b q _ l j.1 j.2.1 j.2.2).mono ?_;rintro e w2 ⟨rfl,rfl⟩;rw[p.1,p.2,y.out];go_wp2_with fail;go_ret;exact⟨by rw[a.out];rfl,by rw[o.out];exact(l.ac true).ep n,(aC.set _ _ _ _).trans (aC.set _ _ _ _)⟩
   ·have a:Hid (q.mM n=3):=by show _=_;unfold Ro.mM;rw[f,ak sM,ak i,ak k]
    have o:Hid (q.claim n=q):=by show _=_;unfold Ro.claim;rw[a.out];rfl
    clear f i;generalize z:q.nx=x at *;have y:Hid (q.nx=x):=z;clear z;have A:¬x=n:=fun h=>k h.symm;go_enter func121,ntmps121;go_wp2_with fail;refine(rC b q _ l j.1 j.2.1 j.2.2).mono ?_;rintro e w2 ⟨rfl,rfl⟩;rw[p.1,p.2];go_wp2_with fail;go_ret;exact⟨by rw[a.out];rfl,by rw[o.out];exact l,aC.refl _ _⟩
 ·rw[f]at c3;have a:Hid (q.mM n=11):=by show _=_;unfold Ro.mM;rw[f,aj rfl]
  have o:Hid (q.claim n=q):=by show _=_;unfold Ro.claim;rw[a.out];rfl
  clear f;go_enter func121,ntmps121;go_wp2_with fail;go_ret;exact⟨by rw[a.out];rfl,by rw[o.out];exact l,aC.refl _ _⟩
theorem TU (b:Nat) (q:Ro) (n:Int) (w:World) (R:dJ w b q) :
  Calls prog 65 #[.pointer (some (b,0)),n] w fun e w'=>e=.returned (.bool (q.lD n))/\dJ w' b (q.mW n)/\aC b w w':=by
 have k:Hid (dJ w b q):=R;have c1:=R.c1;have c2:=R.c2;have c3:=R.c3;have B:=R.fr 1;have C:=R.fr 2;have D:=R.fr 3;clear R;have a:Hid ((gJ n=false\/n < q.ep)->q.mW n=q/\q.lD n=false):=fun h=>Ro.Cj h;have i:Hid (0<=n/\n<=1073741824->gJ n=true):=fun h=>yP.2 h;by_cases E:n < 0
 ·have l:=a.out (Or.inl (by unfold gJ;rw[gQ om];rfl));have f:Hid (q.mW n=q/\q.lD n=false):=l;clear l a i;go_enter func65,ntmps65;go_wp2_with fail;go_ret;exact⟨by rw[f.2];rfl,by rw[f.1];exact k,aC.refl _ _⟩
 ·by_cases F:1073741824 < n
  ·have l:=a.out (Or.inl (by unfold gJ;rw[gQ (show ¬n<=1073741824 by omega)];simp));have f:Hid (q.mW n=q/\q.lD n=false):=l;clear l a i;go_enter func65,ntmps65;go_wp2_with fail;go_ret;exact⟨by rw[f.2];rfl,by rw[f.1];exact k,aC.refl _ _⟩
  ·have o:=i.out om;by_cases y:n < q.ep
   ·have f:Hid (q.mW n=q/\q.lD n=false):=a.out (Or.inr y);clear a i o;have z:(n==q.ep)=false:=dG.2 om;have s:¬q.ep < n:=by omega
    cases j:q.ac
    all_goals
     rw[j]at c3;clear j;go_enter func65,ntmps65;go_wp2_with fail;go_ret;exact⟨by rw[f.2];rfl,by rw[f.1];exact k,aC.refl _ _⟩
   ·by_cases s:q.ep < n
    ·have f:Hid (q.mW n=⟨q.nd,n,0,false⟩/\q.lD n=q.ac):=Ro.Cm o s;clear a i o;have G:=BP w (b,1) n c1;have H:=BP (w.setCell (b,1) n) (b,3) (.bool false) ((lT _ _ _ _ sM).trans c3);go_enter func65,ntmps65;go_wp2_with fail;go_ret;exact⟨by rw[f.2];rfl,by rw[f.1];exact((k.ep n).ac false).si 0,((aC.set _ _ _ _).trans (aC.set _ _ _ _)).trans (aC.set _ _ _ _)⟩
    ·obtain rfl:n=q.ep:=by omega
     have f:Hid (q.mW q.ep=(if q.ac=false then ⟨q.nd,q.ep,0,false⟩ else q)/\q.lD q.ep=false):=Ro.JL o;clear a i o;generalize u:q.ep=x at *;have A:Hid (q.ep=x):=u;clear u
     cases j:q.ac
     ·rw[j]at c3;have p:Hid (q.ac=false):=j;clear j;go_enter func65,ntmps65;go_wp2_with fail;go_ret;refine⟨by rw[f.2];rfl,?_,aC.set _ _ _ _⟩;rw[f.1,aj p.out];have:=k.si 0;rw[A.out,p.out]at this;exact this
     ·rw[j]at c3;have p:Hid (¬q.ac=false):=by show ¬_;rw[j];simp
      clear j;go_enter func65,ntmps65;go_wp2_with fail;go_ret;exact⟨by rw[f.2];rfl,by rw[f.1,ak p.out];exact k,aC.refl _ _⟩
structure Two (w0 w:World) (b m:Nat) (r q:Ro):Prop where
 y:lS w b r
 z:dJ w m q
 ne:b≠m
 hb:w0.heap.size<=b
 hm:w0.heap.size<=m
 bl:Below w0 w0 w
theorem Two.below (h:Two w0 w b m r q) (k:Below w w w'):Two w0 w' b m r q:=⟨h.y.below k,h.z.below k,h.ne,h.hb,h.hm,t2 h.bl k⟩
theorem Two.one {f:Ro} (h:Two w0 w b m r q) (a:lS w' b f) (k:aC b w w'):Two w0 w' b m f q:=⟨a,h.z.dO k (fun e=>h.ne e.symm),h.ne,h.hb,h.hm,aC.below h.bl k h.hb⟩
theorem Two.two {q':Ro} (h:Two w0 w b m r q) (a:dJ w' m q') (k:aC m w w'):Two w0 w' b m r q':=⟨h.y.dO k h.ne,a,h.ne,h.hb,h.hm,aC.below h.bl k h.hm⟩
end
theorem qG (n:Int) (h:0<=n) (j:n<=255) (w:World):Calls prog 61 #[.int .i64 n] w fun e w'=>e=.returned (.string ⟨#[UInt8.ofNat n.toNat]⟩)/\Below w.heap.size w w':=by
 have f:=aeM (P := prog) (w.alloc (.cells #[.int .u8 (n % 256)] 5)) 97 5 Tryz.underlying97 Tryz.underlying5 w.heap.size 0 1 1 [n % 256] rfl (fun i k=>by
  obtain rfl:i=0:=by omega
  simp) 9 Tryz.underlying9
 have a:strOfNums [n % 256]=⟨#[UInt8.ofNat n.toNat]⟩:=by
  rw[Int.emod_eq_of_lt h om];rfl
 rw[a]at f;clear a h j;go_enter func61,ntmps61;go_wp2_with fail;go_ret;exact⟨rfl,(aH _ _).alloc nL _⟩
def nS (n:Int):Nat->List UInt8
 | 0=>[]
 | k+1=>nS (n / 256) k++[UInt8.ofNat (n % 256).toNat]
theorem lY:∀(k:Nat) (n:Int),nS n (k+1)=UInt8.ofNat (n / 256 ^ k % 256).toNat::nS n k
 | 0,n=>by simp[nS]
 | k+1,n=>by
  rw[nS,lY k (n / 256),nS];simp only[List.cons_append];rw[Int.ediv_ediv_of_nonneg om,show(256:Int) * 256 ^ k=256 ^ (k+1) from by rw[Int.pow_succ,Int.mul_comm]]
theorem FX:∀(k:Nat) (n:Int),(nS n k).length=k
 | 0,_=>rfl
 | k+1,n=>by simp[nS,FX k]
theorem Xj (n:Int) (l:0<=n) (y:n < 4294967296) (m:Nat) (G:m<=8) (w:World):Calls prog 116 #[n,m] w fun e w'=>e=.returned (.string ⟨(nS n m).toArray⟩)/\Below w w w':=by
 go_enter func116,ntmps116;go_wp2_with fail;go_loopw [0,5,6] (fun a o t wr=>∃k:Nat,k<=m/\t=.int .i64 k/\a=.int .i64 (n / 256 ^ k)/\o=.string ⟨(nS n k).toArray⟩/\Below w w wr) (fun _ _ t _=>m - (intOf t).toNat)
 case atStart=>exact⟨0,by omega,rfl,by simp,rfl,aH _ _⟩
 case round =>
  obtain⟨k,H,rfl,rfl,rfl,p⟩:=hrel;have s:Hid (Below w w wr):=p;have z:=FX k n;have u:=lY k n;have A:Hid (nS n (k+1)=UInt8.ofNat (n / 256 ^ k % 256).toNat::nS n k):=u;have I:0<=n / 256 ^ k:=Int.ediv_nonneg l (by exact Xe (Int.pow_pos om));have B:n / 256 ^ k < 4294967296:=Int.lt_of_le_of_lt (Int.ediv_le_self _ l) y;have x:n / 256 ^ k / 256=n / 256 ^ (k+1):=by rw[Int.ediv_ediv_of_nonneg (by exact Xe (Int.pow_pos om)),Int.pow_succ]
  have C:Hid (n / 256 ^ k / 256=n / 256 ^ (k+1)):=x;clear p u x;generalize n / 256 ^ k=q at *;generalize f:nS n k=L at *;have i:Hid (nS n k=L):=f;clear f;have hl2:L.length<=8:=by omega
  clear z;by_cases D:k < m
  ·go_wp2_with fail;refine(qG _ om om _).mono ?_;rintro e E ⟨rfl,h⟩;have j:Hid (Below w w E):=t2 s h;clear h;go_wp2_with fail;go_roundw
   case rel=>exact⟨k+1,by omega,by go_num,by rw[<- C.out],dP Value.string (by rw[A.out];apply jB;simp[ByteArray.data_append]),j⟩
   case measure=>simp[intOf];omega
  ·obtain rfl:k=m:=by omega
   have F:Hid (nS n k=L):=i.out;go_wp2_with fail;go_ret;refine⟨?_,s⟩;rw[F.out];rfl
end Go.Proofs.YtnogmjekhjldcaaGreatDoor
