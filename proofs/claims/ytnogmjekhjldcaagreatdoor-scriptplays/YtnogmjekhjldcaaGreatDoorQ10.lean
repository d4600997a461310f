/-
  What the claimed theorem reaches, part Q10.
-/
import Derived.LoopTactic
import Derived.Test.YtnogmjekhjldcaaGreatDoorQ05
import Derived.Test.YtnogmjekhjldcaaGreatDoorQ08
import Derived.Test.YtnogmjekhjldcaaGreatDoorQ09
import Derived.Laws.AppendOwnNone
namespace Go.Proofs.YtnogmjekhjldcaaGreatDoor
open Go.RowKit Go.Proofs.Tryz
set_option maxRecDepth 100000
set_option maxHeartbeats 8000000
theorem Tryz.O0 (x y:Value) (w:World):(Instr.index 253 (.agg #[x,y]) (.int .i64 0)).run prog w=.ok x w:=by kernel_rfl
theorem Tryz.O7 (x y:Value) (w:World):(Instr.index 253 (.agg #[x,y]) (.int .i64 1)).run prog w=.ok y w:=by kernel_rfl
theorem nG (b o:Nat) (w:World):Calls prog 190 #[.pointer (some (b,o))] w fun e w' =>
  e=.returned (.agg #[.pointer (some (b,o+1)),.pointer (some (b,o+3))])/\Below w w w':=by
 go_enter func190,ntmps190;go_wp2
 go_region;all_goals go_wp2
 all_goals exact bf (v:=.agg #[.pointer (some (b,o+1)),.pointer (some (b,o+3))]) (by simp[results,results190,go_sem]) rfl ⟨rfl,by repeat (first | exact aH _ _ | refine qZ ?_ | refine Below.alloc ?_ nL _)⟩
def oQ (w:World) (p:Option Addr) (l:List Rl):Prop:=∀(i:Nat) r,l[i]? = some r->∃b o,p=some ⟨b,o,none⟩/\w.cell? ⟨b,o+i * 5,none⟩=some (.bool r.al) /\
  w.cell? ⟨b,o+i * 5+1,none⟩=some (.bool r.ou)/\w.cell? ⟨b,o+i * 5+2,none⟩=r.pr/\w.cell? ⟨b,o+i * 5+3,none⟩=r.lo/\w.cell? ⟨b,o+i * 5+4,none⟩=r.tp
theorem IQ (p:Option Addr) (n cap:Nat) (a:Int) (ou:Bool) (w:World):Calls prog 296 #[.slice p n cap,a,.bool ou] w fun e w' =>
    e=.returned (.func (.func 308) #[] #[.pointer (some (w.heap.size,0)),.pointer (some (w.heap.size+2,0)),.pointer (some (w.heap.size+1,0))]) /\
      w'=((w.alloc (.cells #[.slice p n cap] 22)).alloc (.cells #[a] 3)).alloc (.cells #[.bool ou] 4):=by
  go_enter func296,ntmps296;go_wp2
  go_ret;exact⟨rfl,rfl⟩
theorem oQ.keep {w w':World} {p:Option Addr} {l:List Rl} (R:oQ w p l) (h:∀a v,w.cell? a=some v->w'.cell? a=some v):oQ w' p l:=fun i r hr=>by
  obtain⟨b,o,e,f,j,k,m,q⟩:=R i r hr;exact⟨b,o,e,h _ _ f,h _ _ j,h _ _ k,h _ _ m,h _ _ q⟩
theorem cell_lt {w:World} {a:Addr} {v:Value} (e:w.cell? a=some v):a.block < w.heap.size:=by
  rcases dX a.block w with h | h
  · exact h
  · simp[World.cell?,Array.getElem?_eq_none h]at e
theorem Below.keeps {w w':World} (h:Below w w w') {a:Addr} {v:Value} (e:w.cell? a=some v):w'.cell? a=some v:=by
  rw[h.cell (p:=a) (cell_lt e)];exact e
theorem KI {l:List Rl} {j:Nat} {r:Rl} (h:l[j]? = some r) (a:Int) (ou:Bool) (p:Int):adm (l.drop j) a ou p=if r.has a ou p=true then r.al else adm (l.drop (j+1)) a ou p:=by
  obtain⟨f,e⟩:=List.getElem?_eq_some_iff.1 h;rw[abS f,e];rfl
theorem UD (p:Option Addr) (l:List Rl) (cap:Nat) (i f:Int) (ou:Bool) (a b c:Nat) (w:World) (R:oQ w p l) (I:l.length<=1000)
    (c0:w.cell? (a,0)=some (.slice p l.length cap)) (c1:w.cell? (b,0)=some (.bool ou)) (c2:w.cell? (c,0)=i) :
    Calls prog 308 #[f,.pointer (some (a,0)),.pointer (some (b,0)),.pointer (some (c,0))] w fun e w'=>e=.returned (.bool (adm l i ou f))/\Below w w w':=by
  have D:Hid (oQ w p l):=R;have E:Hid (w.cell? (b,0)=some (.bool ou)):=c1;have F:Hid (w.cell? (c,0)=i):=c2;clear R c1 c2;go_enter func308,ntmps308;go_wp2_with fail;clear c0;go_loopw [10] (fun t wr=>∃j:Nat,j<=l.length/\t=.int .i64 j/\adm (l.drop j) i ou f=adm l i ou f/\Below w w wr) (fun t _=>l.length - (intOf t).toNat)
  case atStart=>exact⟨0,jY _,rfl,rfl,aH _ _⟩
  case round =>
    obtain⟨j,J,rfl,k,q⟩:=hrel;have s:Hid (adm (l.drop j) i ou f=adm l i ou f):=k;have h:Hid (Below w w wr):=q;clear k q;by_cases m:j < l.length
    · have hr:l[j]? = some l[j]:=fD m
      generalize l[j]=r at hr;obtain⟨x,o,rfl,u,y,z,A,B⟩:=D.out j r hr;have G:=Below.keeps h u;have k1:=Below.keeps h y;have k2:=Below.keeps h z;have k3:=Below.keeps h A;have k4:=Below.keeps h B;have k5:=Below.keeps h E;have k6:=Below.keeps h F;have C:Hid (adm l i ou f=if r.has i ou f=true then r.al else adm (l.drop (j+1)) i ou f):=by rw[<- s.out];exact KI hr _ _ _
      have K:b < wr.heap.size:=cell_lt k5;have L:c < wr.heap.size:=cell_lt k6;clear u y z A B hr;obtain⟨al,ro,M,lo,tp⟩:=r;simp only at G k1 k2 k3 k4;go_wp2_with fail;all_goals first
        | (go_ret
           refine⟨?_,h.alloc h.size _⟩;rw[C.out,aj (AX.2 ⟨by first | assumption | rfl,by simp only;omega,by simp only;omega,by simp only;omega⟩)];rfl)
        | (refine⟨⟨j+1,by omega,by go_num,?_,h.alloc h.size _⟩,by simp[intOf];omega⟩
           rw[C.out,ak];rw[AX];rintro⟨a1,a2,a3,a4⟩;simp only at a1 a2 a3 a4;first | omega | exact absurd a1 az)
    · obtain rfl:j=l.length:=by omega
      have H:Hid (adm l i ou f=false):=by show _=_;rw[<- s.out,Xb];rfl
      go_wp2_with fail;go_ret;refine⟨?_,h⟩;rw[H.out];rfl
structure Bf (w:World) (s:Nat->Addr):Prop where
 c1:w.cell? (0,0)=some (.iface 359 (.pointer (some (s 1))))
 c2:w.cell? (7,0)=some (.iface 359 (.pointer (some (s 2))))
theorem Bf.below {w w':World} {s:Nat->Addr} (S:Bf w s) (a:Below w w w'):Bf w' s:=⟨Below.keeps a S.c1,Below.keeps a S.c2⟩
def nH (s:Nat->Addr):Nat->Value
 | 0=>.nilIface
 | k+1=>.iface 359 (.pointer (some (s k)))
theorem IU {w a:World} {v0 v1 v2 v3 v4 v5:Value} {t:TypeId} (e:Below (w.alloc (.cells #[v0,v1,v2,v3,v4,v5] t)).heap.size (w.alloc (.cells #[v0,v1,v2,v3,v4,v5] t)) a) :
  a.cell? (w.heap.size,0)=some v0/\a.cell? (w.heap.size,1)=some v1/\a.cell? (w.heap.size,2)=some v2/\a.cell? (w.heap.size,3)=some v3/\a.cell? (w.heap.size,4)=some v4/\a.cell? (w.heap.size,5)=some v5 :=
 ⟨Below.keeps e sM,Below.keeps e sM,Below.keeps e sM,Below.keeps e sM,Below.keeps e sM,Below.keeps e sM⟩
abbrev pkt (a e f h i j:Int):Value:=.agg #[a,e,f,h,i,j]
def wP (a p:Int):Prop:=a < 0\/1048576 < a\/p < 1\/65535 < p
def jc (a p:Int):Prop:=0<=a/\a<=1048576/\1<=p/\p<=65535
theorem KJ (a f h i j k:Int) (s:Nat->Addr) (w:World) (S:Bf w s) (l:(a != 1)=true) (m:(a != 2)=true) :
  Calls prog 188 #[pkt a f h i j k] w fun e w'=>e=.returned (nH s 2)/\Below w w w':=by
 have o:=(S.below ((aH _ _).alloc nL (.cells #[a,f,h,i,j,k] 35))).c1;have p:Hid (Bf w s):=S;clear S;go_enter func188,ntmps188;go_wp2_with fail;go_ret;exact⟨rfl,(aH _ _).alloc nL _⟩
theorem UE (a f i o p q:Int) (s:Nat->Addr) (w:World) (S:Bf w s) (u:a=1\/a=2) (l:wP f i) :
  Calls prog 188 #[pkt a f i o p q] w fun e w'=>e=.returned (nH s 2)/\Below w w w':=by
 have m:Hid (Bf w s):=S;clear S;have x:Hid (wP f i):=l;clear l;rcases u with rfl | rfl;all_goals
  go_enter func188,ntmps188;go_wp2_with fail;refine(nG _ _ _).mono ?_;rintro e y ⟨rfl,j⟩;obtain⟨c0,c1,c2,c3,c4,c5⟩:=IU j;have k:Hid (Below w w y):=((aH _ _).alloc nL _).trans (j.mono sM);have z:=(m.out.below k).c1;have A:=(m.out.below k).c2;clear j;have B := Tryz.O0;have C := Tryz.O7;go_wp2_with fail;refine lq 3 ?_;rw[bM];rcases x.out with h | h | h | h;all_goals
   go_wp2_with fail;all_goals (go_ret;exact⟨rfl,k⟩)
theorem UF (a l m f i q:Int) (s:Nat->Addr) (w:World) (S:Bf w s) (u:a=1\/a=2) (x:jc l m) (o:wP f i) :
  Calls prog 188 #[pkt a l m f i q] w fun e w'=>e=.returned (nH s 2)/\Below w w w':=by
 have p:Hid (Bf w s):=S;clear S;have y:Hid (wP f i):=o;clear o;obtain⟨A,B,C,D⟩:=x;rcases u with rfl | rfl;all_goals
  go_enter func188,ntmps188;go_wp2_with fail;refine(nG _ _ _).mono ?_;rintro e z ⟨rfl,j⟩;obtain⟨c0,c1,c2,c3,c4,c5⟩:=IU j;have k:Hid (Below w w z):=((aH _ _).alloc nL _).trans (j.mono sM);have E:=(p.out.below k).c1;have F:=(p.out.below k).c2;clear j;have G := Tryz.O0;have H := Tryz.O7;go_wp2_with fail;refine lq 3 ?_;rw[bM];go_wp2_with fail;rw[bM];rcases y.out with h | h | h | h;all_goals
   go_wp2_with fail;all_goals (go_ret;exact⟨rfl,k⟩)
theorem KL (f k l m o a:Int) (s:Nat->Addr) (w:World) (S:Bf w s) (u:f=1\/f=2) (x:jc k l) (y:jc m o) (p:a < 0\/15 < a) :
  Calls prog 188 #[pkt f k l m o a] w fun e w'=>e=.returned (nH s 2)/\Below w w w':=by
 have q:Hid (Bf w s):=S;clear S;have z:Hid (a < 0\/15 < a):=p;clear p;obtain⟨B,C,D,E⟩:=x;obtain⟨F,G,H,I⟩:=y;rcases u with rfl | rfl;all_goals
  go_enter func188,ntmps188;go_wp2_with fail;refine(nG _ _ _).mono ?_;rintro e A ⟨rfl,i⟩;obtain⟨c0,c1,c2,c3,c4,c5⟩:=IU i;have j:Hid (Below w w A):=((aH _ _).alloc nL _).trans (i.mono sM);have J:=(q.out.below j).c1;have K:=(q.out.below j).c2;clear i;have L := Tryz.O0;have M := Tryz.O7;go_wp2_with fail;refine lq 3 ?_;rw[bM];go_wp2_with fail;rw[bM];go_wp2_with fail;rw[bM];rcases z.out with h | h;all_goals
   go_wp2_with fail;all_goals (go_ret;exact⟨rfl,j⟩)
theorem KN (i j k l m a:Int) (s:Nat->Addr) (w:World) (S:Bf w s) (p:i=1) (q:jc j k) (u:jc l m) (y:0 < a) (z:a<=15) :
  Calls prog 188 #[pkt i j k l m a] w fun e w'=>e=.returned (nH s 3)/\Below w w w':=by
 have o:Hid (Bf w s):=S;clear S;subst p;obtain⟨A,B,C,D⟩:=q;obtain⟨E,F,G,H⟩:=u;have I:(a != 0)=true:=by rw[qY];omega
 all_goals
  go_enter func188,ntmps188;go_wp2_with fail;refine(nG _ _ _).mono ?_;rintro e x ⟨rfl,f⟩;obtain⟨c0,c1,c2,c3,c4,c5⟩:=IU f;have h:Hid (Below w w x):=((aH _ _).alloc nL _).trans (f.mono sM);have J:=(o.out.below h).c1;have K:=(o.out.below h).c2;clear f;have L := Tryz.O0;have M := Tryz.O7;go_wp2_with fail;refine lq 3 ?_;rw[bM];go_wp2_with fail;rw[bM];go_wp2_with fail;rw[bM];go_wp2_with fail;go_ret;exact⟨rfl,h⟩
theorem KP (f j k l m a:Int) (s:Nat->Addr) (w:World) (S:Bf w s) (p:(f=1/\a=0)\/f=2) (q:jc j k) (u:jc l m) (y:0<=a) (z:a<=15) :
  Calls prog 188 #[pkt f j k l m a] w fun e w'=>e=.returned (nH s 0)/\Below w w w':=by
 have o:Hid (Bf w s):=S;clear S;obtain⟨A,B,C,D⟩:=q;obtain⟨E,F,G,H⟩:=u;rcases p with⟨rfl,rfl⟩ | rfl;all_goals
  go_enter func188,ntmps188;go_wp2_with fail;refine(nG _ _ _).mono ?_;rintro e x ⟨rfl,h⟩;obtain⟨c0,c1,c2,c3,c4,c5⟩:=IU h;have i:Hid (Below w w x):=((aH _ _).alloc nL _).trans (h.mono sM);have I:=(o.out.below i).c1;have J:=(o.out.below i).c2;clear h;have K := Tryz.O0;have L := Tryz.O7;go_wp2_with fail;refine lq 3 ?_;rw[bM];go_wp2_with fail;rw[bM];go_wp2_with fail;rw[bM];go_wp2_with fail;go_ret;exact⟨rfl,i⟩
def vH (a p:Int):Bool:=decide (0<=a) && decide (a<=1048576) && decide (1<=p) && decide (p<=65535)
theorem jS {a p:Int}:vH a p=true↔jc a p:=by unfold vH jc;simp;omega
theorem Du {a p:Int}:vH a p=false↔wP a p:=by
 rw[<- Bool.not_eq_true,jS];unfold jc wP;omega
def dB (a f h i j e:Int):Nat :=
 if (a=1\/a=2)/\vH f h=true/\vH i j=true/\0<=e/\e<=15 then (if a=1/\0 < e then 3 else 0) else 2
theorem check_any (a i j k l f:Int) (s:Nat->Addr) (w:World) (S:Bf w s) :
  Calls prog 188 #[pkt a i j k l f] w fun e w'=>e=.returned (nH s (dB a i j k l f))/\Below w w w':=by
 by_cases p:a=1\/a=2
 ·cases m:vH i j
  ·have e:dB a i j k l f=2:=by unfold dB;simp[m]
   rw[e];exact UE a i j k l f s w S p (Du.1 m)
  ·cases o:vH k l
   ·have e:dB a i j k l f=2:=by unfold dB;simp[o]
    rw[e];exact UF a i j k l f s w S p (jS.1 m) (Du.1 o)
   ·by_cases u:f < 0\/15 < f
    ·have e:dB a i j k l f=2:=by unfold dB;rw[ak om]
     rw[e];exact KL a i j k l f s w S p (jS.1 m) (jS.1 o) u
    ·by_cases q:a=1/\0 < f
     ·have e:dB a i j k l f=3:=by unfold dB;rw[aj ⟨p,m,o,by omega,by omega⟩,aj q]
      rw[e];exact KN a i j k l f s w S q.1 (jS.1 m) (jS.1 o) q.2 om
     ·have e:dB a i j k l f=0:=by unfold dB;rw[aj ⟨p,m,o,by omega,by omega⟩,ak q]
      rw[e];exact KP a i j k l f s w S om (jS.1 m) (jS.1 o) om om
 ·have e:dB a i j k l f=2:=by unfold dB;rw[ak (fun h=>p h.1)]
  rw[e];exact KJ a i j k l f s w S (by rw[qY];omega) (by rw[qY];omega)
structure sK (pr a1 p1 a2 p2 fl:Int):Prop where
 proto:(pr=1/\fl=0)\/pr=2
 src:jc a1 p1
 dst:jc a2 p2
 lo:0<=fl
 hi:fl<=15
theorem jI {e f i j k fl:Int}:dB e f i j k fl=0↔sK e f i j k fl:=by
 constructor
 ·intro h;unfold dB at h;split at h
  ·rename_i a;split at h
   ·cases h
   ·exact⟨by omega,jS.1 a.2.1,jS.1 a.2.2.1,a.2.2.2.1,a.2.2.2.2⟩
  ·cases h
 ·intro ⟨q,l,m,o,p⟩;unfold dB;rw[aj ⟨by omega,jS.2 l,jS.2 m,o,p⟩,ak om]
theorem O8 (i ou:Bool) (f lo tp:Int) (w:World) (b:Bool) (j:decide (Rl.ok ⟨i,ou,f,lo,tp⟩)=b) :
  Calls prog 78 #[.agg #[.bool i,.bool ou,f,lo,tp]] w fun e w'=>e=.returned (.bool b)/\Below w w w':=by
 have a:Hid (decide (Rl.ok ⟨i,ou,f,lo,tp⟩)=b):=j;clear j;by_cases h:f=0\/f=1\/f=2
 ·by_cases k:1<=lo
  ·by_cases l:lo<=tp
   ·rcases h3:decide (tp<=65535) with _ | _
    ·have e:b=false:=by rw[<- a.out];rw[WT]at h3 ⊢;unfold Rl.ok;simp only;omega
     subst e;clear a;rcases h with rfl | rfl | rfl;all_goals
      go_enter func78,ntmps78;go_wp2_with fail;go_ret;exact⟨rfl,(aH _ _).alloc nL _⟩
    ·have e:b=true:=by rw[<- a.out];rw[decide_eq_true_iff]at h3 ⊢;unfold Rl.ok;simp only;omega
     subst e;clear a;rcases h with rfl | rfl | rfl;all_goals
      go_enter func78,ntmps78;go_wp2_with fail;go_ret;exact⟨rfl,(aH _ _).alloc nL _⟩
   ·have e:b=false:=by rw[<- a.out];rw[WT];unfold Rl.ok;simp only;omega
    subst e;clear a;rcases h with rfl | rfl | rfl;all_goals
     go_enter func78,ntmps78;go_wp2_with fail;go_ret;exact⟨rfl,(aH _ _).alloc nL _⟩
  ·have e:b=false:=by rw[<- a.out];rw[WT];unfold Rl.ok;simp only;omega
   subst e;clear a;rcases h with rfl | rfl | rfl;all_goals
    go_enter func78,ntmps78;go_wp2_with fail;go_ret;exact⟨rfl,(aH _ _).alloc nL _⟩
 ·have e:b=false:=by rw[<- a.out];rw[WT];unfold Rl.ok;simp only;omega
  subst e;clear a;have m:(f==0)=false:=dG.2 om;have o:(f==1)=false:=dG.2 om;have p:(f==2)=false:=dG.2 om;clear h;go_enter func78,ntmps78;go_wp2_with fail;go_ret;exact⟨rfl,(aH _ _).alloc nL _⟩
def gY:List Rl->Nat->Option Nat
 | [],_=>none
 | r::l,k=>if r.ok then gY l (k+1) else some k
theorem Dw {l:List Rl} {j:Nat} {r:Rl} (h:l[j]? = some r):gY (l.drop j) j=if r.ok then gY (l.drop (j+1)) (j+1) else some j:=by
 obtain⟨a,e⟩:=List.getElem?_eq_some_iff.1 h;rw[abS a,e];rfl
theorem rM:∀{l:List Rl} {k:Nat},gY l k=none↔∀r ∈ l,r.ok
 | [],k=>by simp[gY]
 | r::l,k=>by
  unfold gY;by_cases h:r.ok
  ·rw[if_pos h,rM];simp[h]
  ·rw[if_neg h];simp[h]
def Dx (s:Nat->Addr) (w:World) (l:List Rl) (v:Value):Prop :=
 (20 < l.length/\v=nH s 2)\/(l.length<=20/\gY l 0=none/\v=.nilIface) \/
  (l.length<=20/\∃i g:Nat,gY l 0=some i/\v=.iface 122 (.pointer (some (g,0)))/\w.cell? (g,0)=i/\w.cell? (g,1)=some (.iface 359 (.pointer (some (s 1)))))
theorem Dy (p:Option Addr) (l:List Rl) (cap:Nat) (s:Nat->Addr) (w:World) (S:Bf w s) (R:oQ w p l) (P:l.length<=4000) :
  Calls prog 55 #[.slice p l.length cap] w fun e w'=>(∃v,e=.returned v/\Dx s w' l v)/\Below w w w':=by
 have J:Hid (oQ w p l):=R;have B:Hid (Bf w s):=S;clear R S;by_cases i:20 < l.length
 ·have K:=B.c1;go_enter func55,ntmps55;go_wp2_with fail;go_ret;exact⟨⟨_,rfl,.inl ⟨i,rfl⟩⟩,aH _ _⟩
 ·have k:l.length<=20:=by omega
  go_enter func55,ntmps55;go_wp2_with fail;go_loopw [11] (fun t wr=>∃j:Nat,j<=l.length/\t=.int .i64 j/\gY (l.drop j) j=gY l 0/\Below w w wr) (fun t _=>l.length - (intOf t).toNat)
  case atStart=>exact⟨0,jY _,rfl,rfl,aH _ _⟩
  case round =>
   obtain⟨j,Q,rfl,m,C⟩:=hrel;have D:Hid (gY (l.drop j) j=gY l 0):=m;have f:Hid (Below w w wr):=C;clear m C;by_cases y:j < l.length
   ·have hr:l[j]? = some l[j]:=fD y;generalize l[j]=r at hr;obtain⟨x,o,rfl,E,F,G,H,I⟩:=J.out j r hr;have L:=Below.keeps f E;have k1:=Below.keeps f F;have k2:=Below.keeps f G;have k3:=Below.keeps f H;have k4:=Below.keeps f I;have h:Hid (gY l 0=if r.ok then gY (l.drop (j+1)) (j+1) else some j):=by show _=_;rw[<- D.out];exact Dw hr
    clear E F G H I hr;obtain⟨z,ro,A,lo,tp⟩:=r;simp only at L k1 k2 k3 k4;have M:Hid (Below w w (wr.alloc (.cells #[.bool z,.bool ro,A,lo,tp] 50))):=f.alloc f.size _;go_wp2_with fail;refine(O8 z ro A lo tp _ _ rfl).mono ?_;rintro e w2 ⟨rfl,q⟩;have u:Hid (Below w w w2):=M.trans (q.mono (by have:=f.size;simp;omega));have N:Hid (Bf w2 s):=B.below u;clear q;by_cases a:Rl.ok ⟨z,ro,A,lo,tp⟩
    ·rw[gG a];have h:Hid (gY l 0=gY (l.drop (j+1)) (j+1)):=by have:=h.out;rw[aj a]at this;exact this
     clear a;go_wp2_with fail;go_roundw
     case rel=>exact⟨j+1,by omega,by go_num,h.symm,u⟩
     case measure=>simp[intOf];omega
    ·rw[gQ a];have h:Hid (gY l 0=some j):=by have:=h.out;rw[ak a]at this;exact this
     clear a;have K:=N.c1;go_wp2_with fail;go_ret;refine⟨⟨_,rfl,.inr (.inr ⟨k,j,w2.heap.size,h,rfl,?_,?_⟩)⟩,u.alloc u.size _⟩
     ·simp
     ·simp
   ·obtain rfl:j=l.length:=by omega
    have O:Hid (gY l 0=none):=by show _=_;rw[<- D.out,Xb];rfl
    go_wp2_with fail;go_ret;exact⟨⟨_,rfl,.inr (.inl ⟨k,O.out,rfl⟩)⟩,f⟩
theorem rO (p:Option Addr) (l:List Rl) (cap:Nat) (s:Nat->Addr) (w:World) (S:Bf w s) (R:oQ w p l) (a:l.length<=1000) :
  Calls prog 55 #[.slice p l.length cap] w fun e w'=>(∃v,e=.returned v/\Dx s w' l v)/\Below w w w' :=
 Dy p l cap s w S R om
section
variable {w w':World}
theorem oQ.below {p:Option Addr} {l:List Rl} (R:oQ w p l) (a:Below w w w'):oQ w' p l:=R.keep fun _ _ h=>Below.keeps a h
theorem below2 {a w2:World} (e:Below w w a) (f:Below a a w2):Below w w w2:=e.trans (f.mono e.size)
structure UG (w:World) (B:Nat) (p:Option Addr) (n cap:Nat) (pr:Int) (ou:Bool):Prop where
 c0:w.cell? (B,0)=some (.slice p n cap)
 c1:w.cell? (B+1,0)=pr
 c2:w.cell? (B+2,0)=some (.bool ou)
theorem UG.below {B:Nat} {p:Option Addr} {n cap:Nat} {e:Int} {ou:Bool} (h:UG w B p n cap e ou) (a:Below w w w'):UG w' B p n cap e ou :=
 ⟨Below.keeps a h.c0,Below.keeps a h.c1,Below.keeps a h.c2⟩
abbrev agj (B:Nat):Value:=.func (.func 308) #[] #[.pointer (some (B,0)),.pointer (some (B+2,0)),.pointer (some (B+1,0))]
theorem KQ (B:Nat) (p:Option Addr) (n cap:Nat) (a:Int) (ou:Bool) (w:World) (f:w.heap.size=B):Calls prog 296 #[.slice p n cap,a,.bool ou] w fun e w' =>
  e=.returned (agj B)/\UG w' B p n cap a ou/\Below w w w':=by
 subst f;refine(IQ p n cap a ou w).mono ?_;rintro e w' ⟨rfl,rfl⟩;exact⟨rfl,⟨by simp[go_sem],by simp[go_sem],by simp[go_sem]⟩,(((aH _ _).alloc nL _).alloc sM _).alloc (by simp;omega) _⟩
theorem Yd (B:Nat) (p:Option Addr) (l:List Rl) (cap:Nat) (f a:Int) (ou:Bool) (w:World) (F:UG w B p l.length cap f ou) (R:oQ w p l) (h:l.length<=1000) :
  Calls prog 308 #[a,.pointer (some (B,0)),.pointer (some (B+2,0)),.pointer (some (B+1,0))] w fun e w'=>e=.returned (.bool (adm l f ou a))/\Below w w w' :=
 UD p l cap f a ou _ _ _ w R h F.c0 F.c2 F.c1
theorem Below.ael {B:Nat} (h:Below B w.drew w'):Below B w w':=⟨h.os,h.tape,h.output,h.size,h.block⟩
theorem acH (s:Nat->Addr) (k:Nat):nH s (k+1)=.iface 359 (.pointer (some (s k))):=rfl
def aF (l:List Rl):Prop:=l.length<=20/\gY l 0=none
def agk (s:Nat->Addr) (w:World) (l:List Rl) (a f h i e j:Int) (ou:Bool) (v:Value) (b:Bool):Prop :=
 (¬aF l/\Dx s w l v/\b=false)\/(aF l/\(∃k,dB a f h i e j=k+1/\v=nH s (k+1))/\b=false)\/(aF l/\dB a f h i e j=0/\v=.nilIface/\b=adm l a ou e)
theorem Pe (p:Option Addr) (l:List Rl) (cap:Nat) (a q u x m y:Int) (ou:Bool) (s:Nat->Addr) (w:World) (S:Bf w s) (R:oQ w p l) (J:l.length<=1000) :
  Calls prog 270 #[.slice p l.length cap,pkt a q u x m y,.bool ou] w fun e w'=>(∃v b,e=.returned (.tuple #[.bool b,v])/\agk s w' l a q u x m y ou v b)/\Below w w w':=by
 have K:Hid (oQ w p l):=R;have L:Hid (Bf w s):=S;clear R S;have b1:Hid (Below w w (w.alloc (.cells #[a,q,u,x,m,y] 35))):=(aH _ _).alloc nL _;go_enter func270,ntmps270;go_wp2_with fail;refine(rO p l cap s _ (L.below b1.out) (K.below b1.out) J).mono ?_;rintro e G ⟨⟨v,rfl,Q⟩,z⟩;obtain⟨c0,c1,c2,c3,c4,c5⟩:=IU z;have D:Hid (Below w w G):=below2 b1.out z;clear z;rcases Q with⟨f,rfl⟩ | ⟨f,o,rfl⟩ | ⟨f,i,g,o,rfl,E,F⟩
 ·unfold nH;clear c0 c1 c2 c3 c4 c5;go_wp2_with fail;go_ret2;exact⟨⟨_,_,rfl,.inl ⟨fun h=>by have:=h.1;omega,.inl ⟨f,rfl⟩,rfl⟩⟩,D⟩
 ·have M:Hid (aF l):=⟨f,o⟩;clear f o;go_wp2_with fail;refine(check_any a q u x m y s _ (L.below D)).mono ?_;rintro e w2 ⟨rfl,j⟩;have N:Hid (Below w w w2):=below2 D j;have V:=Below.keeps j c0;have k4:=Below.keeps j c4;clear j c0 c1 c2 c3 c4 c5;rcases hk:dB a q u x m y with _ | k
  ·have I:Hid (dB a q u x m y=0):=hk;clear hk;unfold nH;go_wp2_with fail;go_region_with (first
    | (go_at_call 296;refine(KQ w2 p l.length cap a ou _ (by rfl)).mono ?_;rintro e O ⟨rfl,P,A⟩;have B:Hid (Below w w O):=below2 N (Below.ael A);have T:Hid (UG O w2 p l.length cap a ou):=P;have W:=Below.keeps (Below.ael A) k4;clear P A)
    | (go_at_call 308;refine(Yd w2 p l cap a m ou _ T (K.below B) J).mono ?_;rintro e w4 ⟨rfl,C⟩;have U:Hid (Below w w w4):=below2 B C;clear C))
   all_goals go_wp2_with fail
   all_goals go_ret2
   all_goals exact⟨⟨_,_,rfl,.inr (.inr ⟨M,I,rfl,rfl⟩)⟩,U⟩
  ·have I:Hid (dB a q u x m y=k+1):=hk;clear hk;rw[acH];go_wp2_with fail;go_ret2;exact⟨⟨_,_,rfl,.inr (.inl ⟨M,⟨k,I,rfl⟩,rfl⟩)⟩,N⟩
 ·have H:Hid (l.length<=20/\gY l 0=some i/\G.cell? (g,0)=i/\G.cell? (g,1)=some (.iface 359 (.pointer (some (s 1))))):=⟨f,o,E,F⟩;clear f o E F c0 c1 c2 c3 c4 c5;go_wp2_with fail;go_ret2;obtain⟨f,o,E,F⟩:=H.out;exact⟨⟨_,_,rfl,.inl ⟨fun h=>absurd (o.symm.trans h.2) sM,.inr (.inr ⟨f,i,g,o,rfl,E,F⟩),rfl⟩⟩,D⟩
end
section
variable {T:Tb}
def nxJ (T:Tb) (D:To) (c:Nat):Nat:=((List.range 33).find? fun j=>decide (8<=(wk ((dH T D).take 8) c j).length)).getD 0
def Fz (T:Tb) (D:To) (c:Nat):List Nat:=wk ((dH T D).take 8) c (nxJ T D c)
def nxC (T:Tb) (D:To) (c:Nat):Nat:=(c+nxJ T D c) % 32
theorem Ye (T:Tb) (D:To) (c:Nat):Full ((dH T D).take 8) c (nxJ T D c):=by
 obtain⟨j,a⟩:=acy ((dH T D).take 8) c;have e:=a.le;have:(List.range 33).find? (fun j=>decide (8<=(wk ((dH T D).take 8) c j).length))=some j:=by
  rw[aeI];refine⟨by simpa using a.2,by simp;omega,fun i f=>?_⟩;have:=a.1 i f;simp;omega
 unfold nxJ;rw[this];exact a
theorem uM (T:Tb) (D:To) (c:Nat):Nx T D c (Fz T D c) (nxC T D c):=⟨nxJ T D c,Ye T D c,rfl,rfl⟩
def iR (x:Int):Prop := -9223372036854775808<=x/\x<=9223372036854775807
theorem iR.wf {x:Int} (h:iR x):(Lit.int .i64 x).wf=true:=WalkArith.wf_i64 (by unfold iR at h;omega)
theorem iR.small {x:Int} (a : -1000000<=x) (e:x<=1000000):iR x:=by unfold iR;omega
def qy (T:Tb):Prop:=∀j,j < 32->iR (T j).pr/\iR (T j).st
theorem qy.new:qy newT:=fun j _=>⟨iR.small (by show(-1000000:Int)<=0;omega) (by show(0:Int)<=1000000;omega),iR.small (by show(-1000000:Int)<=0;omega) (by show(0:Int)<=1000000;omega)⟩
theorem qy.upd (h:qy T) (k:Nat) (c:Ce) (a:iR c.pr) (e:iR c.st):qy (upd T k c):=fun j f=>by
 unfold Go.Proofs.YtnogmjekhjldcaaGreatDoor.upd;split
 ·exact⟨a,e⟩
 ·exact h j f
theorem in0:iR 0:=iR.small om om
theorem qy.exp (h:qy T) (a:Int) (n:Nat):qy (jF T a n):=fun j e=>by
 unfold jF;split
 ·exact⟨in0,in0⟩
 ·exact h j e
theorem qy.put (h:qy T) (a e f i j k st un:Int) (l:iR a) (m:iR st):qy (ku T a e f i j k st un).2.2:=by
 unfold ku;repeat' split
 all_goals first | exact h | exact h.upd _ _ l m
theorem qy.add (h:qy T) (low a e f i j st un:Int) (k:iR a) (l:iR st):qy (iC T low a e f i j st un).2.2:=by
 unfold iC;repeat' split
 all_goals first | exact h | exact h.upd _ _ k l
theorem qy.set (h:qy T) (k st un:Int) (e:iR st):qy (nO T k st un):=by
 unfold nO;split
 ·rename_i f;obtain⟨a,b,_⟩:=o9 f;exact h.upd _ _ (h k.toNat om).1 e
 ·exact h
theorem qy.drop (h:qy T) (k:Int):qy (iZ T k):=by
 unfold iZ;split
 ·exact h.upd _ _ in0 in0
 ·exact h
theorem Bg (a st:Int):0<=stay a st/\stay a st<=100:=by
 unfold stay;split
 ·omega
 ·split
  ·split
   ·omega
   ·split
    ·omega
    ·split <;> omega
  ·omega
structure No where
 ro:Ro
 id:Int
 life:Int
 now:Int
 ru:List Rl
 off:Bool
 y:By
 T:Tb
 D:To
 cu:Nat
 ml:Int
 mt:Tb
def No.low (x:No):Int:=2000+x.id * 24
def Aa (a:Int):Tb->List Ce->Tb
 | T,[]=>T
 | T,c::r=>Aa a (ku T c.pr c.ia c.ip c.fa c.fp c.po c.st (a+stay c.pr c.st)).2.2 r
theorem Dz (a:Int):∀(l:List Ce) (T:Tb) (c:Ce),Aa a T (l++[c])=(ku (Aa a T l) c.pr c.ia c.ip c.fa c.fp c.po c.st (a+stay c.pr c.st)).2.2
 | [],_,_=>rfl
 | _::l,_,c=>Dz a l _ c
theorem gI.ad (a:Int):∀(l:List Ce) {T:Tb} {m:Nat},gI T m->gI (Aa a T l) (m+l.length)
 | [],_,_,h=>h
 | c::l,_,m,h=>by
  have:=gI.ad a l (h.put c.pr c.ia c.ip c.fa c.fp c.po c.st (a+stay c.pr c.st));rw[vX,show m+(l.length+1)=m+1+l.length by omega];exact this
theorem qy.ad (a:Int):∀(l:List Ce) {T:Tb},qy T->(∀c ∈ l,iR c.pr/\iR c.st)->qy (Aa a T l)
 | [],_,h,_=>h
 | c::l,_,h,hl=>qy.ad a l (h.put _ _ _ _ _ _ _ _ (hl c sM).1 (hl c sM).2) (fun d e=>hl d (by simp[e]))
theorem Bh :∀{n:Nat} {c:Ce},c ∈ jy T n->∃j,j < n/\c=T j
 | 0,_,h=>by simp[jy]at h
 | n+1,c,h=>by
  unfold jy at h;split at h
  ·obtain⟨j,a,b⟩:=Bh h;exact⟨j,by omega,b⟩
  ·rcases lU.1 h with h | h
   ·obtain⟨j,a,b⟩:=Bh h;exact⟨j,by omega,b⟩
   ·exact⟨n,by omega,by simpa using h⟩
def No.au (x:No):No:={x with now:=x.now+1,T:=jF x.T (x.now+1) 32,ro:=x.ro.tick}
def No.cp (x:No):Nat×By×Bool:=bn x.off x.y x.ro.jQ x.life
def No.mM (x:No):Nat:=if x.ro.oM=0 then x.cp.1 else 0
def No.rP (x:No):No :=
 if x.ro.oM=0 then
  (if x.cp.1=0 then {x with y:=x.cp.2.1,off:=x.cp.2.2,T:=Aa x.now x.T (jy x.mt 32),ro:=x.ro.claim x.ro.jQ} else {x with y:=x.cp.2.1,off:=x.cp.2.2})
 else x
def No.lg (x:No):Nat:=if x.ro.rings then x.au.mM else 0
def No.tk1 (x:No):No:=if x.ro.rings then x.au.rP else x.au
def No.due (x:No):Bool:=decide (x.now % 3=0)
structure Nt where
 cl:Bool
 L:List Nat
def No.notes (x:No) (fresh:Bool):List Nt :=
 if x.ro.ac then (if fresh || x.due then [⟨true,[]⟩] else [])++(if x.due then [⟨false,Fz x.T x.D x.cu⟩] else []) else []
def No.noted (x:No):No:=if x.ro.ac && x.due then {x with D:=jD x.T x.D (Fz x.T x.D x.cu),cu:=nxC x.T x.D x.cu} else x
def No.tick (x:No):No:=if x.lg=0 then x.tk1.noted else x.tk1
def No.dN (x:No):List Nt:=if x.lg=0 then x.tk1.notes (!x.ro.ac) else []
end
section
variable {l:List Nat} {w w' w0:World} {b n m:Nat} {id life now:Int} {p:Option Addr} {x:No}
structure ay (l:List Nat) (w w':World):Prop where
 os:w'.os=w.os
 tape:w'.tape=w.tape
 output:w'.output=w.output
 size:w.heap.size<=w'.heap.size
 block:∀k,k < w.heap.size->¬k ∈ l->w'.heap[k]? = w.heap[k]?
theorem ay.of (h:Below w w w'):ay l w w':=⟨h.os,h.tape,h.output,h.size,fun k a _=>h.block k a⟩
theorem ay.refl (l:List Nat) (w:World):ay l w w:=ay.of bR
theorem ay.trans {u v:World} (h:ay l u v) (k:ay l v w):ay l u w :=
 ⟨k.os.trans h.os,k.tape.trans h.tape,k.output.trans h.output,dL h.size k.size,fun i a e=>(k.block i (ji a h.size) e).trans (h.block i a e)⟩
theorem ay.then {u v:World} (h:ay l u v) (k:Below v v w):ay l u w:=h.trans (ay.of k)
theorem ay.one (h:aC b w w') (a:b ∈ l):ay l w w' :=
 ⟨h.os,h.tape,h.output,h.size,fun k f i=>h.block k f (fun e=>i (e ▸ a))⟩
theorem ay.two {c:Nat} (h:bW b c w w') (f:b ∈ l) (i:c ∈ l):ay l w w' :=
 ⟨h.os,h.tape,h.output,h.size,fun k j a=>h.block k j (fun e=>a (e ▸ f)) (fun e=>a (e ▸ i))⟩
theorem ay.below (h:Below w0 w0 w) (k:ay l w w') (a:∀b ∈ l,w0.heap.size<=b):Below w0 w0 w' :=
 h.trans ⟨k.os,k.tape,k.output,k.size,fun i e=>k.block i (ji e h.size) (fun f=>by have:=a i f;omega)⟩
theorem ay.keeps (h:ay l w w') {a:Addr} {v:Value} (f:¬a.block ∈ l) (e:w.cell? a=some v):w'.cell? a=some v:=by
 rw[dV (w:=w) (h.block a.block (eF e) f)];exact e
theorem ay.mono {l':List Nat} (h:ay l w w') (a:∀b ∈ l,b ∈ l'\/w.heap.size<=b):ay l' w w' :=
 ⟨h.os,h.tape,h.output,h.size,fun k e f=>h.block k e (fun i=>by rcases a k i with h | h;exact f h;omega)⟩
structure Bk where
 nd:Nat
 ro:Nat
 ce:Nat
 yb:Nat
 te:Nat
 tb:Nat
 mp:Nat
 mi:Nat
 rp:Option Addr
 rc:Nat
def Bk.all (k:Bk):List Nat:=[k.nd,k.ro,k.ce,k.yb,k.te,k.tb,k.mp,k.mi]
structure Bk.Ds (k:Bk):Prop where
 d1:k.nd≠k.ro/\k.nd≠k.ce/\k.nd≠k.yb/\k.nd≠k.te/\k.nd≠k.tb/\k.nd≠k.mp/\k.nd≠k.mi
 d2:k.ro≠k.ce/\k.ro≠k.yb/\k.ro≠k.te/\k.ro≠k.tb/\k.ro≠k.mp/\k.ro≠k.mi
 d3:k.ce≠k.yb/\k.ce≠k.te/\k.ce≠k.tb/\k.ce≠k.mp/\k.ce≠k.mi
 d4:k.yb≠k.te/\k.yb≠k.tb/\k.yb≠k.mp/\k.yb≠k.mi
 d5:k.te≠k.tb/\k.te≠k.mp/\k.te≠k.mi
 d6:k.tb≠k.mp/\k.tb≠k.mi/\k.mp≠k.mi
def Gx (w:World) (k:Bk) (id life now:Int) (n:Nat):Prop:=w.heap[k.nd]? = some (.cells #[.pointer (some (k.ro,0)),id,life,now,.slice k.rp n k.rc,.pointer (some (k.ce,0)),.pointer (some (k.te,0)),.pointer (some (k.mi,0))] 192 (0,0))
theorem Gx.lt {k:Bk} (h:Gx w k id life now n):k.nd < w.heap.size:=by
 rcases dX k.nd w with a | a
 ·exact a
 ·unfold Gx at h;rw[eP a]at h;cases h
theorem Gx.kept {k:Bk} (h:Gx w k id life now n) (e:w'.heap[k.nd]? = w.heap[k.nd]?):Gx w' k id life now n:=by unfold Gx;rw[e];exact h
theorem Gx.c {k:Bk} (h:Gx w k id life now n) (i:Nat):w.cell? (k.nd,i)=(#[.pointer (some (k.ro,0)),id,life,now,.slice k.rp n k.rc,.pointer (some (k.ce,0)),.pointer (some (k.te,0)),.pointer (some (k.mi,0))]:Array Value)[i]? := aP w _ _ _ _ _ h
theorem Gx.fr {k:Bk} (h:Gx w k id life now n) (i:Nat):w.frozen? (k.nd,i)=false:=jk w _ i _ _ h
theorem Gx.aeY {k:Bk} (h:Gx w k id life now n) (t:Int):Gx (w.setCell (k.nd,3) t) k id life t n:=by unfold Gx;rw[bV w _ _ _ _ _ h];rfl
theorem jG.KT {M:Nat} {D:To} (h:jG w M n D) (c:ay l w w') (e:¬M ∈ l):jG w' M n D:=by
 obtain⟨d,a,f⟩:=h;have i:=a.lt;obtain⟨j,k,o,q⟩:=a;exact⟨d,⟨j,k,by rw[c.block M i e];exact o,q⟩,f⟩
theorem oQ.dO {l:List Rl} (R:oQ w p l) (c:aC b w w') (h:l≠[]->∀a,p=some a->a.block≠b):oQ w' p l:=fun i r hr=>by
 have j:l≠[]:=by intro e;subst e;simp at hr
 obtain⟨g,o,e,k,q,s,u,y⟩:=R i r hr;have f:=h j _ e;exact⟨g,o,e,c.keeps f k,c.keeps f q,c.keeps f s,c.keeps f u,c.keeps f y⟩
theorem oQ.AB {l:List Rl} {d:Nat} (R:oQ w p l) (c:bW b d w w') (h:l≠[]->(∀a,p=some a->a.block≠b)/\(∀a,p=some a->a.block≠d)):oQ w' p l:=fun i r hr=>by
 have f:l≠[]:=by intro e;subst e;simp at hr
 obtain⟨g,o,e,q,s,u,y,z⟩:=R i r hr;have j:=(h f).1 _ e;have k:=(h f).2 _ e;exact⟨g,o,e,c.keeps j k q,c.keeps j k s,c.keeps j k u,c.keeps j k y,c.keeps j k z⟩
structure Nd (w0 w:World) (k:Bk) (x:No) (m n:Nat):Prop where
 nd:Gx w k x.id x.life x.now x.ru.length
 ro:lS w k.ro x.ro
 rk:x.ro.Ok
 ce:yL w k.ce k.yb x.off
 yb:fK w k.yb x.y
 lf:x.y.left<=9223372036854775807
 tb:Tab w k.tb x.low x.T
 vs:gI x.T m
 wt:qy x.T
 te:uK w k.te k.tb k.mp n x.D x.cu
 mi:lH w k.mi x.ml x.mt
 wm:qy x.mt
 ru:oQ w k.rp x.ru
 ds:k.Ds
 g0:∀b ∈ k.all,w0.heap.size<=b
 rb:x.ru≠[]->∀a,k.rp=some a->w0.heap.size<=a.block/\¬a.block ∈ k.all
 id:x.id=0\/x.id=1
 bl:Below w0 w0 w
theorem Bk.tK (k:Bk):k.nd ∈ k.all:=by simp[Bk.all]
theorem Bk.vI (k:Bk):k.ro ∈ k.all:=by simp[Bk.all]
theorem Bk.DC (k:Bk):k.ce ∈ k.all:=by simp[Bk.all]
theorem Bk.rQ (k:Bk):k.yb ∈ k.all:=by simp[Bk.all]
theorem Bk.KU (k:Bk):k.te ∈ k.all:=by simp[Bk.all]
theorem Bk.DI (k:Bk):k.tb ∈ k.all:=by simp[Bk.all]
theorem Bk.acI (k:Bk):k.mp ∈ k.all:=by simp[Bk.all]
theorem Bk.FC (k:Bk):k.mi ∈ k.all:=by simp[Bk.all]
theorem oQ.kept {l:List Rl} (R:oQ w p l) (h:l≠[]->∀a,p=some a->w'.heap[a.block]? = w.heap[a.block]?):oQ w' p l:=by
 intro i r hr;have j:l≠[]:=by intro e;subst e;simp at hr
 obtain⟨b,o,e,k,q,s,u,y⟩:=R i r hr;have f:w'.heap[b]? = w.heap[b]? := h j _ e;exact⟨b,o,e,by rw[dV (w:=w) f];exact k,by rw[dV (w:=w) f];exact q,by rw[dV (w:=w) f];exact s,by rw[dV (w:=w) f];exact u,by rw[dV (w:=w) f];exact y⟩
theorem lS.kept {r:Ro} (h:lS w b r) (e:w'.heap[b]? = w.heap[b]?):lS w' b r:=by unfold lS;rw[e];exact h
theorem yL.kept {c:Nat} {off:Bool} (h:yL w c b off) (e:w'.heap[c]? = w.heap[c]?):yL w' c b off :=
 ⟨by rw[dV (w:=w) e];exact h.c0,by rw[dV (w:=w) e];exact h.c1,by rw[sO (w:=w) e];exact h.f1⟩
theorem fK.kept {s:By} (h:fK w b s) (e:w'.heap[b]? = w.heap[b]?):fK w' b s:=⟨by rw[e];exact h.1,h.2⟩
theorem Tab.kept {low:Int} {T:Tb} (h:Tab w b low T) (e:w'.heap[b]? = w.heap[b]?):Tab w' b low T:=by unfold Tab;rw[e];exact h
theorem lH.kept {l:Int} {T:Tb} (h:lH w b l T) (e:w'.heap[b]? = w.heap[b]?):lH w' b l T:=by unfold lH;rw[e];exact h
theorem Nd.kept {k:Bk} (h:Nd w0 w k x m n) {l:List Nat} (c:ay l w w') (f:∀b ∈ k.all,¬b ∈ l) (hr:x.ru≠[]->∀a,k.rp=some a->¬a.block ∈ l) (j:∀b ∈ l,w0.heap.size<=b):Nd w0 w' k x m n where
 nd:=h.nd.kept (c.block _ h.nd.lt (f _ k.tK))
 ro:=h.ro.kept (c.block _ h.ro.lt (f _ k.vI))
 rk:=h.rk
 ce:=h.ce.kept (c.block _ h.ce.lt (f _ k.DC))
 yb:=h.yb.kept (c.block _ h.yb.lt (f _ k.rQ))
 lf:=h.lf
 tb:=h.tb.kept (c.block _ h.tb.lt (f _ k.DI))
 vs:=h.vs
 wt:=h.wt
 te:=by
  obtain⟨u,A,B,C,D,E,F⟩:=h.te;have e:=c.block k.te (eF u) (f _ k.KU);exact⟨by rw[dV (w:=w) e];exact u,by rw[dV (w:=w) e];exact A,by rw[dV (w:=w) e];exact B,by rw[sO (w:=w) e];exact C,D.KT c (f _ k.acI),E,F⟩
 mi:=h.mi.kept (c.block _ h.mi.lt (f _ k.FC))
 wm:=h.wm
 ru:=h.ru.kept (fun y a e=>by
  rcases dX a.block w with q | q
  ·exact c.block _ q (hr y a e)
  ·exfalso;obtain⟨r,s⟩:=JC _ y;obtain⟨i,G⟩:=Aq s;obtain⟨b,o,z,j,_⟩:=h.ru i r G;rw[e]at z
   cases z
   have:=eF j;simp only at this q;omega)
 ds:=h.ds
 g0:=h.g0
 rb:=h.rb
 id:=h.id
 bl:=ay.below h.bl c j
theorem Nd.below {k:Bk} (h:Nd w0 w k x m n) (c:Below w w w'):Nd w0 w' k x m n :=
 h.kept (l:=[]) (ay.of c) (fun _ _=>by simp) (fun _ _ _=>by simp) (fun _ a=>by simp at a)
theorem Nd.rlt {k:Bk} (h:Nd w0 w k x m n) (f:x.ru≠[]) (b:Nat) (i:b ∈ k.all):∀a,k.rp=some a->a.block≠b:=fun a e q=>(h.rb f a e).2 (q ▸ i)
theorem Nd.Pg {k:Bk} (h:Nd w0 w k x m n) {r:Ro} (t:lS w' k.ro r) (K:r.Ok) (c:aC k.ro w w'):Nd w0 w' k {x with ro:=r} m n where
 nd:=h.nd.kept (c.block _ h.nd.lt (by have:=h.ds.d1;omega))
 ro:=t
 rk:=K
 ce:=h.ce.dO c (by have:=h.ds.d2;omega)
 yb:=h.yb.dO c (by have:=h.ds.d2;omega)
 lf:=h.lf
 tb:=h.tb.dO c (by have:=h.ds.d2;omega)
 vs:=h.vs
 wt:=h.wt
 te:=h.te.dO c (by have:=h.ds.d2;omega) (by have:=h.ds.d2;omega)
 mi:=h.mi.dO c (by have:=h.ds.d2;omega)
 wm:=h.wm
 ru:=h.ru.dO c (fun a=>h.rlt a _ k.vI)
 ds:=h.ds
 g0:=h.g0
 rb:=h.rb
 id:=h.id
 bl:=aC.below h.bl c (h.g0 _ k.vI)
theorem Nd.DJ {k:Bk} (h:Nd w0 w k x m n) {T:Tb} {m':Nat} (t:Tab w' k.tb x.low T) (v:gI T m') (u:qy T) (c:aC k.tb w w'):Nd w0 w' k {x with T:=T} m' n where
 nd:=h.nd.kept (c.block _ h.nd.lt (by have:=h.ds.d1;omega))
 ro:=h.ro.dO c (by have:=h.ds.d2;omega)
 rk:=h.rk
 ce:=h.ce.dO c (by have:=h.ds.d3;omega)
 yb:=h.yb.dO c (by have:=h.ds.d4;omega)
 lf:=h.lf
 tb:=t
 vs:=v
 wt:=u
 te:=h.te.dO c (by have:=h.ds.d5;omega) (by have:=h.ds.d6;omega)
 mi:=h.mi.dO c (by have:=h.ds.d6;omega)
 wm:=h.wm
 ru:=h.ru.dO c (fun a=>h.rlt a _ k.DI)
 ds:=h.ds
 g0:=h.g0
 rb:=h.rb
 id:=h.id
 bl:=aC.below h.bl c (h.g0 _ k.DI)
theorem Nd.aeZ {k:Bk} (h:Nd w0 w k x m n) {D:To} {cu a:Nat} (t:uK w' k.te k.tb k.mp a D cu) (c:bW k.te k.mp w w'):Nd w0 w' k {x with D:=D,cu:=cu} m a where
 nd:=h.nd.kept (c.block _ h.nd.lt (by have:=h.ds.d1;omega) (by have:=h.ds.d1;omega))
 ro:=h.ro.kept (c.block _ h.ro.lt (by have:=h.ds.d2;omega) (by have:=h.ds.d2;omega))
 rk:=h.rk
 ce:=h.ce.kept (c.block _ h.ce.lt (by have:=h.ds.d3;omega) (by have:=h.ds.d3;omega))
 yb:=h.yb.kept (c.block _ h.yb.lt (by have:=h.ds.d4;omega) (by have:=h.ds.d4;omega))
 lf:=h.lf
 tb:=h.tb.kept (c.block _ h.tb.lt (by have:=h.ds.d5;omega) (by have:=h.ds.d6;omega))
 vs:=h.vs
 wt:=h.wt
 te:=t
 mi:=h.mi.kept (c.block _ h.mi.lt (by have:=h.ds.d5;omega) (by have:=h.ds.d6;omega))
 wm:=h.wm
 ru:=(h.ru.AB c (fun e=>⟨h.rlt e _ k.KU,h.rlt e _ k.acI⟩))
 ds:=h.ds
 g0:=h.g0
 rb:=h.rb
 id:=h.id
 bl:=bW.below h.bl c (h.g0 _ k.KU) (h.g0 _ k.acI)
theorem Nd.Yf {k:Bk} (h:Nd w0 w k x m n) {s:By} {off:Bool} (t:fK w' k.yb s) (u:yL w' k.ce k.yb off) (e:s.left<=9223372036854775807) (c:bW k.yb k.ce w w'):Nd w0 w' k {x with y:=s,off:=off} m n where
 nd:=h.nd.kept (c.block _ h.nd.lt (by have:=h.ds.d1;omega) (by have:=h.ds.d1;omega))
 ro:=h.ro.kept (c.block _ h.ro.lt (by have:=h.ds.d2;omega) (by have:=h.ds.d2;omega))
 rk:=h.rk
 ce:=u
 yb:=t
 lf:=e
 tb:=h.tb.kept (c.block _ h.tb.lt (by have:=h.ds.d4;omega) (by have:=h.ds.d3;omega))
 vs:=h.vs
 wt:=h.wt
 te:=h.te.AB c (by have:=h.ds.d4;omega) (by have:=h.ds.d3;omega) (by have:=h.ds.d4;omega) (by have:=h.ds.d3;omega)
 mi:=h.mi.kept (c.block _ h.mi.lt (by have:=h.ds.d4;omega) (by have:=h.ds.d3;omega))
 wm:=h.wm
 ru:=(h.ru.AB c (fun a=>⟨h.rlt a _ k.rQ,h.rlt a _ k.DC⟩))
 ds:=h.ds
 g0:=h.g0
 rb:=h.rb
 id:=h.id
 bl:=bW.below h.bl c (h.g0 _ k.rQ) (h.g0 _ k.DC)
theorem Nd.ae0 {k:Bk} (h:Nd w0 w k x m n) {l:Int} {T:Tb} (t:lH w' k.mi l T) (u:qy T) (c:aC k.mi w w'):Nd w0 w' k {x with ml:=l,mt:=T} m n where
 nd:=h.nd.kept (c.block _ h.nd.lt (by have:=h.ds.d1;omega))
 ro:=h.ro.dO c (by have:=h.ds.d2;omega)
 rk:=h.rk
 ce:=h.ce.dO c (by have:=h.ds.d3;omega)
 yb:=h.yb.dO c (by have:=h.ds.d4;omega)
 lf:=h.lf
 tb:=h.tb.dO c (by have:=h.ds.d6;omega)
 vs:=h.vs
 wt:=h.wt
 te:=h.te.dO c (by have:=h.ds.d5;omega) (by have:=h.ds.d6;omega)
 mi:=t
 wm:=u
 ru:=h.ru.dO c (fun a=>h.rlt a _ k.FC)
 ds:=h.ds
 g0:=h.g0
 rb:=h.rb
 id:=h.id
 bl:=aC.below h.bl c (h.g0 _ k.FC)
theorem Nd.RH {k:Bk} (h:Nd w0 w k x m n) (t:Int):Nd w0 (w.setCell (k.nd,3) t) k {x with now:=t} m n:=by
 have c:aC k.nd w (w.setCell (k.nd,3) t):=aC.set _ _ _ _;exact {
  nd:=h.nd.aeY t
  ro:=h.ro.dO c (by have:=h.ds.d1;omega)
  rk:=h.rk
  ce:=h.ce.dO c (by have:=h.ds.d1;omega)
  yb:=h.yb.dO c (by have:=h.ds.d1;omega)
  lf:=h.lf
  tb:=h.tb.dO c (by have:=h.ds.d1;omega)
  vs:=h.vs
  wt:=h.wt
  te:=h.te.dO c (by have:=h.ds.d1;omega) (by have:=h.ds.d1;omega)
  mi:=h.mi.dO c (by have:=h.ds.d1;omega)
  wm:=h.wm
  ru:=h.ru.dO c (fun a=>h.rlt a _ k.tK)
  ds:=h.ds
  g0:=h.g0
  rb:=h.rb
  id:=h.id
  bl:=aC.below h.bl c (h.g0 _ k.tK)}
end
theorem bk {w w':World} (h:Below w w w') {a:Addr} {v:Value} (e:w.cell? a=some v):w'.cell? a=some v:=by
 have f:a.block < w.heap.size:=by
  rcases dX a.block w with h | h
  ·exact h
  ·simp[World.cell?,Array.getElem?_eq_none h]at e
 rw[h.cell (p:=a) f];exact e
theorem bb {w a w2:World} (e:Below w w a) (f:Below a a w2):Below w w w2:=e.trans (f.mono e.size)
theorem IV (a k:Int) (b:Bool) (f:hasB a k=b) (w:World):Calls prog 274 #[a,k] w fun e w'=>e=.returned (.bool b)/\w'=w:=by
 subst f;go_enter func274,ntmps274;go_wp2_with fail;go_ret;exact⟨rfl,rfl⟩
theorem acJ (a st f:Int) (ou:Bool) (w:World) (h:a≠2) :
  Calls prog 236 #[a,st,f,.bool ou] w fun e w'=>e=.returned (.tuple #[st,.bool false])/\w'=w:=by
 have i:(a != 2)=true:=qY.2 h;clear h;go_enter func236,ntmps236;go_wp2_with fail;go_ret2;exact⟨rfl,rfl⟩
theorem Yg (st a:Int) (ou f h i:Bool) (w:World) (j:hasB a 8=f) (k:hasB a 4=h) (l:hasB a 3=i) (r:Int) (g:Bool)
  (hr:(f=true/\r=0/\g=true)\/(f=false/\h=true/\r=3/\g=false)\/(f=false/\h=false/\(st==1)=true/\ou=false/\i=true/\r=2/\g=false)
   \/ (f=false/\h=false/\(st==1)=true/\ou=false/\i=false/\r=st/\g=false)\/(f=false/\h=false/\(st==1)=true/\ou=true/\r=st/\g=false)\/(f=false/\h=false/\(st==1)=false/\r=st/\g=false)) :
  Calls prog 236 #[.int .i64 2,st,a,.bool ou] w fun e w'=>e=.returned (.tuple #[r,.bool g])/\w'=w:=by
 have o:Hid (hasB a 8=f):=j;have p:Hid (hasB a 4=h):=k;have q:Hid (hasB a 3=i):=l;clear j k l;rcases hr with⟨rfl,rfl,rfl⟩ | ⟨rfl,rfl,rfl,rfl⟩ | ⟨rfl,rfl,hs,rfl,rfl,rfl,rfl⟩ | ⟨rfl,rfl,hs,rfl,rfl,rfl,rfl⟩ | ⟨rfl,rfl,hs,rfl,rfl,rfl⟩ | ⟨rfl,rfl,hs,rfl,rfl⟩;all_goals
  go_enter func236,ntmps236;go_wp2_with fail;refine(IV a 8 _ o _).mono ?_;rintro e m ⟨rfl,rfl⟩;go_wp2_with (first | (go_at_call_of 274 (Value.int IntKind.i64 4);refine(IV a 4 _ p _).mono ?_;rintro e m ⟨rfl,rfl⟩) | (go_at_call_of 274 (Value.int IntKind.i64 3);refine(IV a 3 _ q _).mono ?_;rintro e m ⟨rfl,rfl⟩))
  all_goals go_ret2
  all_goals exact⟨rfl,rfl⟩
theorem Ph (f st a:Int) (ou:Bool) (w:World) :
  Calls prog 236 #[f,st,a,.bool ou] w fun e w'=>e=.returned (.tuple #[.int .i64 (xR f st a ou),.bool (wO f a)])/\w'=w:=by
 by_cases h:f=2
 ·subst h;refine Yg st a ou _ _ _ w rfl rfl rfl _ _ ?_;unfold xR wO;rw[aj rfl]
  cases l:hasB a 8 <;> cases m:hasB a 4 <;> cases o:hasB a 3 <;> cases ou <;> by_cases i:st=1 <;> simp[i]
 ·have j:xR f st a ou=st:=by unfold xR;rw[ak h]
  have k:wO f a=false:=by unfold wO;rw[gQ h];rfl
  rw[j,k];exact acJ f st a ou w h
section
variable {w:World} {l:List Rl} {v:Value}
def rlC (r:Rl):List Value:=[.bool r.al,.bool r.ou,r.pr,r.lo,r.tp]
def fQ (l:List Rl):List Value:=l.flatMap rlC
theorem tN (r:Rl) (l:List Rl):fQ (r::l)=.bool r.al::.bool r.ou::.int .i64 r.pr::.int .i64 r.lo::.int .i64 r.tp::fQ l:=rfl
theorem wQ:∀l:List Rl,(fQ l).length=l.length * 5
 | []=>rfl
 | r::l=>by rw[tN];simp only[List.length_cons,wQ l];omega
theorem FD (a b:List Rl):fQ (a++b)=fQ a++fQ b:=by simp[fQ]
theorem wR:∀(l:List Rl) (i k:Nat),k < 5->(fQ l)[i * 5+k]? = (l[i]?).bind fun r=>(rlC r)[k]?
 | [],i,k,_=>by simp[fQ]
 | r::l,0,k,h=>by
  rw[tN];match k,h with
  | 0,_ | 1,_ | 2,_ | 3,_ | 4,_=>rfl
 | r::l,i+1,k,h=>by
  have e:(i+1) * 5+k=(i * 5+k)+1+1+1+1+1:=by omega
  rw[tN,e,Oj,Oj,Oj,Oj,Oj,Oj];exact wR l i k h
theorem DK (l:List Rl) (u:Value) (h:u ∈ fQ l):u.oneCell'=true:=by
 obtain⟨r,_,hr⟩:=List.mem_flatMap.1 h;simp only[rlC,dI,eY,fA]at hr;rcases hr with rfl | rfl | rfl | rfl | rfl <;> rfl
theorem addr_add (b o j:Nat):Addr.add (b,o) j=(b,o+j):=by
 unfold Addr.add;by_cases h:j=0
 ·subst h;rfl
 ·rw[ak h]
theorem oQ.at {ad:Addr} (R:oQ w (some ad) l) (j:Nat) (u:Value) (h:(fQ l)[j]? = some u):w.cell? (ad.add j)=some u:=by
 have e:j=j / 5 * 5+j % 5:=by omega
 have f:j % 5 < 5:=TQ _ om;rw[e,wR l _ _ f]at h;obtain⟨r,hr,a⟩:=Option.bind_eq_some_iff.1 h;obtain⟨b,o,m,p,q,s,x,y⟩:=R _ _ hr;obtain rfl:=sS m;rw[addr_add];generalize z:j / 5=i at *;generalize A:j % 5=k at *;subst e;match k,f with
 | 0,_=>exact(show w.cell? (b,o+i * 5)=some u from p.trans a)
 | 1,_=>rw[<- JI];exact q.trans a
 | 2,_=>rw[<- JI];exact s.trans a
 | 3,_=>rw[<- JI];exact x.trans a
 | 4,_=>rw[<- JI];exact y.trans a
def Sl (w:World) (v:Value) (l:List Rl):Prop:=(v=.slice none 0 0/\l=[])\/∃a cap,v=.slice (some a) l.length cap/\l.length<=cap/\cap<=maxLen/\oQ w (some a) l
theorem Sl.open (h:Sl w v l):∃p cap,v=.slice p l.length cap/\oQ w p l:=by
 rcases h with⟨rfl,rfl⟩ | ⟨a,cap,h1,_,_,h2⟩
 ·exact⟨none,0,rfl,fun i r h=>by simp at h⟩
 ·exact⟨_,_,h1,h2⟩
theorem Sl.room {p:Option Addr} {n cap:Nat} (h:Sl w (.slice p n cap) l):l.length<=cap/\cap<=maxLen:=by
 rcases h with⟨h1,rfl⟩ | ⟨a,cap',h1,h2,h3,_⟩
 ·obtain⟨_,_,rfl⟩:=Fe h1;exact⟨bJ _,jY _⟩
 ·obtain⟨_,_,rfl⟩:=Fe h1;exact⟨h2,h3⟩
theorem Sl.keep {w':World} (h:Sl w v l) (e:∀a v,w.cell? a=some v->w'.cell? a=some v):Sl w' v l:=by
 rcases h with h | ⟨a,cap,f,i,j,k⟩
 ·exact .inl h
 ·exact .inr ⟨a,cap,f,i,j,k.keep e⟩
theorem Sl.below {w':World} (h:Sl w v l) (a:Below w w w'):Sl w' v l:=h.keep fun _ _ e=>Below.keeps a e
theorem Sl.pF {base:Nat} {n:Nat} (h:w.ownsRow base 50 5 v n (fQ l)):Sl w v l/\n=l.length:=by
 obtain⟨e,h⟩:=h;rw[wQ]at e;have j:n=l.length:=by omega
 subst j;refine⟨?_,rfl⟩;rcases h with⟨h1,h2⟩ | ⟨g,cap,cur,h1,h2,h3,h4,h5,h6,h7⟩
 ·exact .inl ⟨h1,List.length_eq_zero_iff.1 h2⟩
 ·refine .inr ⟨_,cap,h1,h4,h5,fun i r hr=>⟨g,0,rfl,?_⟩⟩;have a:∀k u,k < 5->(rlC r)[k]? = some u->w.cell? ⟨g,0+i * 5+k,none⟩=some u:=fun k u m o=>by
   have f:(fQ l)[i * 5+k]? = some u:=by rw[wR l i k m,hr];exact o
   rw[<- h7,kG]at f;split at f
   ·have p:cur[i * 5+k]? = some u:=by simpa using f
    simp[World.cell?,h3,p]
   ·cases f
  exact⟨a 0 _ om rfl,a 1 _ om rfl,a 2 _ om rfl,a 3 _ om rfl,a 4 _ om rfl⟩
theorem Tryz.Yh:(prog.info? 50).map (fun i=>(i.zero,i.size,i.bytes))=some (some (.agg #[.bool false,.bool false,.int .i64 0,.int .i64 0,.int .i64 0]),5,32):=by kernel_rfl
end
theorem Yi (a p:Int) (w:World) (h:jc a p):Calls prog 41 #[.agg #[a,p]] w fun e w'=>e=.returned (.bool true)/\Below w w w':=by
 obtain⟨f,i,j,k⟩:=h;go_enter func41,ntmps41;go_wp2_with fail;go_ret;exact⟨rfl,(aH _ _).alloc nL _⟩
theorem UH (a p:Int) (w:World) (h:wP a p):Calls prog 41 #[.agg #[a,p]] w fun e w'=>e=.returned (.bool false)/\Below w w w':=by
 by_cases f:0<=a
 ·by_cases i:a<=1048576
  ·by_cases j:1<=p
   ·have k:decide (p<=65535)=false:=by rcases h with h | h | h | h <;> simp <;> omega
    clear h;go_enter func41,ntmps41;go_wp2_with fail;go_ret;exact⟨rfl,(aH _ _).alloc nL _⟩
   ·clear h;go_enter func41,ntmps41;go_wp2_with fail;go_ret;exact⟨rfl,(aH _ _).alloc nL _⟩
  ·clear h;go_enter func41,ntmps41;go_wp2_with fail;go_ret;exact⟨rfl,(aH _ _).alloc nL _⟩
 ·clear h;go_enter func41,ntmps41;go_wp2_with fail;go_ret;exact⟨rfl,(aH _ _).alloc nL _⟩
theorem Gy (a p:Int) (b:Bool) (f:vH a p=b) (w:World):Calls prog 41 #[.agg #[a,p]] w fun e w'=>e=.returned (.bool b)/\Below w w w':=by
 cases b
 ·exact UH a p w (Du.1 f)
 ·exact Yi a p w (jS.1 f)
theorem UJ (b1 i:Bool) (a k l m o h:Int) (w:World) (q:vH k l=b1) (s:vH m o=i) (r:Int)
  (hr:((a != 1)=true/\(a != 2)=true/\r=2)\/((a=1\/a=2)/\b1=false/\r=2)\/((a=1\/a=2)/\b1=true/\i=false/\r=2)\/((a=1\/a=2)/\b1=true/\i=true/\(h < 0\/15 < h)/\r=2) \/
   (a=1/\b1=true/\i=true/\0 < h/\h<=15/\r=3)\/(a=1/\b1=true/\i=true/\h=0/\r=0)\/(a=2/\b1=true/\i=true/\0<=h/\h<=15/\r=0)) :
  Calls prog 18 #[pkt a k l m o h] w fun e w'=>e=.returned r/\Below w w w':=by
 have y:Hid (vH k l=b1):=q;have z:Hid (vH m o=i):=s;clear q s;rcases hr with⟨g1,g2,rfl⟩ | ⟨rfl | rfl,rfl,rfl⟩ | ⟨rfl | rfl,rfl,rfl,rfl⟩ | ⟨rfl | rfl,rfl,rfl,g | g,rfl⟩ | ⟨rfl,rfl,rfl,g1,g2,rfl⟩ | ⟨rfl,rfl,rfl,rfl,rfl⟩ | ⟨rfl,rfl,rfl,g1,g2,rfl⟩;all_goals
  go_enter func18,ntmps18;go_wp2_with fail;refine(Gy _ _ _ y _).mono ?_;rintro e u ⟨rfl,j⟩;obtain⟨c0,c1,c2,c3,c4,c5⟩:=IU j;have x:Hid (Below w w u):=((aH _ _).alloc nL _).trans (j.mono sM);have A:Hid (w.heap.size < u.heap.size):=by have:=j.size;simp at this;exact this
  clear j;go_wp2_with fail;refine(Gy _ _ _ z _).mono ?_;rintro e w2 ⟨rfl,f⟩;have B:=Below.keeps f c0;have C:=Below.keeps f c5;have p:Hid (Below w w w2):=x.trans (f.mono x.size);clear f c0 c1 c2 c3 c4 c5;go_wp2_with fail;all_goals (go_ret;exact⟨rfl,p⟩)
theorem DL (j a f h i k:Int) (w:World) :
  Calls prog 18 #[pkt j a f h i k] w fun e w'=>e=.returned (.int .i64 (dB j a f h i k))/\Below w w w':=by
 refine UJ (vH a f) (vH h i) j a f h i k w rfl rfl _ ?_;unfold dB;simp only[qY]
 cases l:vH a f <;> cases m:vH h i <;> simp
 all_goals first | omega | (split <;> (try split) <;> omega)
def jT (l:List Rl):Int×Int:=if 20 < l.length then (2,-1) else match gY l 0 with | some i=>(2,(i:Int)) | none=>(0,-1)
theorem Yj (c:Int) (w:World):Calls prog 12 #[c] w fun e w'=>e=.returned (.agg #[c,.int .i64 (-1)])/\Below w w w':=by
  go_enter func12,ntmps12;go_wp2_with fail;exact bf (by simp[results,results12,go_sem]) rfl ⟨rfl,(aH _ _).alloc nL _⟩
theorem Yl (w:World):Calls prog 13 #[] w fun e w'=>e=.returned (.agg #[.int .i64 0,.int .i64 (-1)])/\Below w w w':=by
  go_enter func13,ntmps13;go_wp2_with fail;exact bf (by simp[results,results13,go_sem]) rfl ⟨rfl,(aH _ _).alloc nL _⟩
structure Rs (w wr:World):Prop where
  c0:wr.cell? (w.heap.size,0)=some (.int .i64 0)
  c1:wr.cell? (w.heap.size,1)=some (.int .i64 0)
  f0:wr.frozen? (w.heap.size,0)=false
  f1:wr.frozen? (w.heap.size,1)=false
  b:Below w w wr
theorem KX {w w':World} (h:Below w w w') {a:Addr} {v:Value} (e:w.cell? a=some v) (f:w.frozen? a=false):w'.frozen? a=false:=by
  rw[h.frozen (p:=a) (cell_lt e)];exact f
theorem Rs.below {w e w2:World} (h:Rs w e) (a:Below e e w2):Rs w w2:=⟨Below.keeps a h.c0,Below.keeps a h.c1,KX a h.c0 h.f0,KX a h.c1 h.f1,below2 h.b a⟩
theorem Rs.new (w:World):Rs w (w.alloc (.cells #[.int .i64 0,.int .i64 0] 26)) :=
  ⟨by simp,by simp,by rw[BQ _ _ _ _ rfl],by rw[BQ _ _ _ _ rfl],(aH _ _).alloc nL _⟩
theorem Pj (p:Option Addr) (l:List Rl) (cap:Nat) (w:World) (R:oQ w p l) (O:l.length<=4000) :
    Calls prog 5 #[.slice p l.length cap] w fun e w'=>e=.returned (.agg #[(jT l).1,(jT l).2])/\Below w w w':=by
  have J:=jH R;clear R;by_cases h:20 < l.length
  · have u:Hid (jT l=(2,-1)):=by show _=_;unfold jT;rw[aj h]
    go_enter func5,ntmps5;go_wp2_with fail;have y:=jH (Rs.new w);refine jM (Yj 2 _) fun K f=>?_;have a:=jH (y.below f);have c0:=a.c0;have c1:=a.c1;have f0:=a.f0;have f1:=a.f1;clear f;go_wp2_with fail;exact bf (v:=.agg #[.int .i64 2,.int .i64 (-1)]) (by simp[results,results5,go_sem,c0,c1]) rfl ⟨by rw[u.out],by
      repeat (first | exact a.b | refine wo ?_ (by exact bJ _) _)⟩
  · have u:Hid (jT l=match gY l 0 with | some i=>(2,(i:Int)) | none=>(0,-1)):=by show _=_;unfold jT;rw[ak h]
    go_enter func5,ntmps5;go_wp2_with fail;have y:=jH (Rs.new w);go_loopw [3] (fun t wr=>∃j:Nat,j<=l.length/\t=.int .i64 j/\gY (l.drop j) j=gY l 0/\Rs w wr) (fun t _=>l.length - (intOf t).toNat)
    case atStart=>exact⟨0,jY _,rfl,rfl,y⟩
    case round =>
      obtain⟨j,P,rfl,m,q⟩:=hrel;have C:=jH m;have k:=jH q;clear m q;by_cases z:j < l.length
      · have hr:=fD z
        generalize l[j]=r at hr;obtain⟨x,o,rfl,D,E,F,G,H⟩:=J.out j r hr;have L:=Below.keeps k.b D;have k1:=Below.keeps k.b E;have k2:=Below.keeps k.b F;have k3:=Below.keeps k.b G;have k4:=Below.keeps k.b H;have I:Hid (gY l 0=if r.ok then gY (l.drop (j+1)) (j+1) else some j):=by show _=_;rw[<- C.out];exact Dw hr
        clear D E F G H hr;obtain⟨A,ro,B,lo,tp⟩:=r;simp only at L k1 k2 k3 k4;have a:Hid (Rs w (wr.alloc (.cells #[.bool A,.bool ro,B,lo,tp] 50))):=k.below ((aH _ _).alloc nL _);have c0:=a.c0;have c1:=a.c1;have f0:=a.f0;have f1:=a.f1;go_wp2_with fail;all_goals first
          | (refine⟨⟨j+1,by omega,by go_num,?_,a⟩,by simp[intOf];omega⟩
             rw[I.out,aj (show Rl.ok ⟨A,ro,B,lo,tp⟩ by unfold Rl.ok;simp only;omega)])
          | (have s:¬Rl.ok ⟨A,ro,B,lo,tp⟩:=by unfold Rl.ok;simp only;omega
             have M:Hid (gY l 0=some j):=by show _=_;rw[I.out,ak s]
             clear s;exact bf (v:=.agg #[.int .i64 2,j]) (by simp[results,results5,go_sem,c0,c1]) rfl ⟨by rw[u.out,M.out],by
               repeat (first | exact a.b | refine wo ?_ (by exact bJ _) _)⟩)
      · obtain rfl:j=l.length:=by omega
        have N:Hid (gY l 0=none):=by show _=_;rw[<- C.out,Xb];rfl
        go_wp2_with fail;refine jM (Yl _) fun K f=>?_;have a:=jH (k.below f);have c0:=a.c0;have c1:=a.c1;have f0:=a.f0;have f1:=a.f1;clear f;go_wp2_with fail;exact bf (v:=.agg #[.int .i64 0,.int .i64 (-1)]) (by simp[results,results5,go_sem,c0,c1]) rfl ⟨by rw[u.out,N.out],by
          repeat (first | exact a.b | refine wo ?_ (by exact bJ _) _)⟩
theorem Pm (p:Option Addr) (l:List Rl) (cap:Nat) (w:World) (R:oQ w p l) (a:l.length<=1000) :
    Calls prog 5 #[.slice p l.length cap] w fun e w'=>e=.returned (.agg #[(jT l).1,(jT l).2])/\Below w w w' :=
  Pj p l cap w R om
theorem acK (p:Option Addr) (l:List Rl) (cap:Nat) (f a:Int) (ou:Bool) (w:World) (R:oQ w p l) (H:l.length<=1000) :
    Calls prog 68 #[.slice p l.length cap,f,a,.bool ou] w fun e w'=>e=.returned (.bool (adm l f ou a))/\Below w w w':=by
  have E:Hid (oQ w p l):=R;clear R;go_enter func68,ntmps68;go_wp2_with fail;go_loopw [9] (fun t wr=>∃j:Nat,j<=l.length/\t=.int .i64 j/\adm (l.drop j) f ou a=adm l f ou a/\Below w w wr) (fun t _=>l.length - (intOf t).toNat)
  case atStart=>exact⟨0,jY _,rfl,rfl,aH _ _⟩
  case round =>
    obtain⟨j,I,rfl,i,s⟩:=hrel;have u:Hid (adm (l.drop j) f ou a=adm l f ou a):=i;have h:Hid (Below w w wr):=s;clear i s;by_cases m:j < l.length
    · have hr:l[j]? = some l[j]:=fD m
      generalize l[j]=r at hr;obtain⟨x,o,rfl,y,z,A,B,C⟩:=E.out j r hr;have F:=Below.keeps h y;have k1:=Below.keeps h z;have k2:=Below.keeps h A;have k3:=Below.keeps h B;have k4:=Below.keeps h C;have D:Hid (adm l f ou a=if r.has f ou a=true then r.al else adm (l.drop (j+1)) f ou a):=by rw[<- u.out];exact KI hr _ _ _
      clear y z A B C hr;obtain⟨al,ro,k,lo,tp⟩:=r;simp only at F k1 k2 k3 k4;go_wp2_with fail;all_goals first
        | (go_ret
           refine⟨?_,h.alloc h.size _⟩;rw[D.out,aj (AX.2 ⟨by first | assumption | rfl,by simp only;first | omega | (have q:(k != 0)=false\/(k != f)=false:=az;simp only[bne_eq_false_iff_eq]at q;omega),by simp only;omega,by simp only;omega⟩)];rfl)
        | (refine⟨⟨j+1,by omega,by go_num,?_,h.alloc h.size _⟩,by simp[intOf];omega⟩
           rw[D.out,ak];rw[AX];rintro⟨a1,a2,a3,a4⟩;simp only at a1 a2 a3 a4;first | omega | exact absurd a1 az | (have q:(k != 0)=true/\(k != f)=true:=az;simp only[qY,ne_eq]at q;omega))
    · obtain rfl:j=l.length:=by omega
      have G:Hid (adm l f ou a=false):=by show _=_;rw[<- u.out,Xb];rfl
      go_wp2_with fail;go_ret;refine⟨?_,h⟩;rw[G.out];rfl
end Go.Proofs.YtnogmjekhjldcaaGreatDoor
