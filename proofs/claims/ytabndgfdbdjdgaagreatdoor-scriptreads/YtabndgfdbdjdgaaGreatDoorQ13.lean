/-
  What the claimed theorem reaches, part Q13.
-/
import Derived.Test.YtabndgfdbdjdgaaGreatDoorQ04
import Derived.Test.YtabndgfdbdjdgaaGreatDoorQ02
import Derived.Test.YtabndgfdbdjdgaaGreatDoorQ00
import Derived.Test.YtabndgfdbdjdgaaGreatDoorQ09
import Derived.Test.YtabndgfdbdjdgaaGreatDoorQ12
import Derived.Test.YtabndgfdbdjdgaaGreatDoorQ06
import Derived.Test.YtabndgfdbdjdgaaGreatDoorQ07
import Derived.Test.YtabndgfdbdjdgaaGreatDoorQ08
namespace Go.Proofs.YtabndgfdbdjdgaaGreatDoor
open Go.RowKit
set_option maxRecDepth 100000
set_option maxHeartbeats 8000000
section
variable {w w':World} {b:Nat} {r:Ro}
structure Se3 (w:World) (s:Nat->Addr):Prop where
 c1:w.cell? (0,0)=some (.iface 312 (.pointer (some (s 1))))
 c2:w.cell? (2,0)=some (.iface 312 (.pointer (some (s 2))))
 c10:w.cell? (10,0)=some (.iface 312 (.pointer (some (s 10))))
theorem Se3.below {s:Nat->Addr} (S:Se3 w s) (hb:Below w w w'):Se3 w' s:=⟨tk hb S.c1,tk hb S.c2,tk hb S.c10⟩
def Rol (w:World) (b:Nat) (r:Ro):Prop:=w.heap[b]? = some (.cells #[r.nd,r.ep,r.si,.bool r.ac] 193 (0,0))
theorem Rol.lt (h:Rol w b r):b < w.heap.size:=by
 rcases Nat.lt_or_ge b w with h1 | h1
 ·exact h1
 ·rw[Rol,Array.getElem?_eq_none h1]at h;cases h
theorem Rol.below (h:Rol w b r) (hb:Below w w w'):Rol w' b r:=by unfold Rol;rw[hb.block b h.lt];exact h
theorem Rol.chg {d:Nat} (h:Rol w b r) (hb:Chg d w w') (hn:b≠d):Rol w' b r:=by unfold Rol;rw[hb.block b h.lt hn];exact h
theorem Rol.c0 (h:Rol w b r):w.cell? (b,0)=r.nd:=(cell_of_row w b _ _ _ _ h).trans rfl
theorem Rol.c1 (h:Rol w b r):w.cell? (b,1)=r.ep:=(cell_of_row w b _ _ _ _ h).trans rfl
theorem Rol.c2 (h:Rol w b r):w.cell? (b,2)=r.si:=(cell_of_row w b _ _ _ _ h).trans rfl
theorem Rol.c3 (h:Rol w b r):w.cell? (b,3)=some (.bool r.ac):=(cell_of_row w b _ _ _ _ h).trans rfl
theorem Rol.fr (h:Rol w b r) (i:Nat):w.frozen? (b,i)=false:=frozen_of_row w b i _ _ h
theorem Rol.ep (h:Rol w b r) (x:Int):Rol (w.setCell (b,1) x) b ⟨r.nd,x,r.si,r.ac⟩:=by unfold Rol;rw[heap_setCell_same w b _ _ _ _ h];rfl
theorem Rol.si (h:Rol w b r) (x:Int):Rol (w.setCell (b,2) x) b ⟨r.nd,r.ep,x,r.ac⟩:=by unfold Rol;rw[heap_setCell_same w b _ _ _ _ h];rfl
theorem Rol.ac (h:Rol w b r) (x:Bool):Rol (w.setCell (b,3) (.bool x)) b ⟨r.nd,r.ep,r.si,x⟩:=by unfold Rol;rw[heap_setCell_same w b _ _ _ _ h];rfl
theorem isEpochR_any (n:Int) (w:World):Calls Tryz.prog 203 #[n] w fun e w'=>e=.returned (.bool (isEpR n))/\w'=w:=by
 by_cases h:0<=n
 ·have HE:Hid (isEpR n=decide (n<=1073741824)):=by unfold isEpR;rw[decide_eq_true h];exact rfl
  go_enter Tryz.func203,Tryz.ntmps203
  go_wp2_with fail
  go_ret
  exact⟨by rw[HE.out];rfl,rfl⟩
 ·have HE:Hid (isEpR n=false):=by unfold isEpR;rw[decide_eq_false h];exact rfl
  go_enter Tryz.func203,Tryz.ntmps203
  go_wp2_with fail
  go_ret
  exact⟨by rw[HE.out];rfl,rfl⟩
theorem active_any (b:Nat) (r:Ro) (w:World) (R:Rol w b r):Calls Tryz.prog 123 #[.pointer (some (b,0))] w fun e w'=>e=.returned (.bool r.ac)/\w'=w:=by
 have c3:=R.c3
 clear R
 go_enter Tryz.func123,Tryz.ntmps123
 go_wp2_with fail
 go_ret
 exact⟨rfl,rfl⟩
theorem epochR_any (b:Nat) (r:Ro) (w:World) (R:Rol w b r):Calls Tryz.prog 79 #[.pointer (some (b,0))] w fun e w'=>e=.returned r.ep/\w'=w:=by
 have c1:=R.c1
 clear R
 go_enter Tryz.func79,Tryz.ntmps79
 go_wp2_with fail
 go_ret
 exact⟨rfl,rfl⟩
theorem tick_any (b:Nat) (r:Ro) (w:World) (R:Rol w b r) (K:r.Ok):Calls Tryz.prog 176 #[.pointer (some (b,0))] w fun e w'=>e=.returned (.bool r.rings)/\Rol w' b r.tick/\Chg b w w':=by
 obtain⟨nd,ep,si,ac⟩:=r
 have HR:Hid (Rol w b ⟨nd,ep,si,ac⟩):=R
 have k0:0<=si:=K.s0
 have k1:si<=10:=K.s1
 have c2:=R.c2
 have c3:=R.c3
 have f2:=R.fr 2
 clear R K
 simp only at c2 c3
 cases ac
 ·by_cases h9:si<=9
  ·have HG:Hid ((⟨nd,ep,si,false⟩:Ro).rings=decide (9 < si+1)):=by show(if false=true then false else decide (9 < (if si<=9 then si+1 else si)))=_;rw[if_pos h9];rfl
   have HQ:Hid ((⟨nd,ep,si,false⟩:Ro).tick=⟨nd,ep,si+1,false⟩):=by show(if false=true then _ else (⟨nd,ep,if si<=9 then si+1 else si,false⟩:Ro))=_;rw[if_pos h9];rfl
   have hw:IntKind.i64.wrap (si+1)=si+1:=by rw[IntKind.wrap_i64];omega
   have hc:=World.cell?_setCell_same w (b,2) (.int .i64 (si+1)) c2
   go_enter Tryz.func176,Tryz.ntmps176
   go_wp2_with fail
   go_ret
   exact⟨by rw[HG.out];rfl,by rw[HQ.out];exact HR.si _,Chg.set _ _ _ _⟩
  ·have HG:Hid ((⟨nd,ep,si,false⟩:Ro).rings=true):=by show(if false=true then false else decide (9 < (if si<=9 then si+1 else si)))=_;rw[if_neg h9];simp;omega
   have HQ:Hid ((⟨nd,ep,si,false⟩:Ro).tick=⟨nd,ep,si,false⟩):=by show(if false=true then _ else (⟨nd,ep,if si<=9 then si+1 else si,false⟩:Ro))=_;rw[if_neg h9];rfl
   go_enter Tryz.func176,Tryz.ntmps176
   go_wp2_with fail
   go_ret
   exact⟨by rw[HG.out];rfl,by rw[HQ.out];exact HR,Chg.refl _ _⟩
 ·go_enter Tryz.func176,Tryz.ntmps176
  go_wp2_with fail
  go_ret
  exact⟨rfl,HR,Chg.refl _ _⟩
theorem newR_ok (nd ep:Int) (w:World) (h:nd=0\/nd=1) (h0:0<=ep) (h1:ep<=1073741824) :
  Calls Tryz.prog 169 #[nd,ep] w fun e w'=>(e=.returned (.tuple #[.pointer (some (w.heap.size,0)),.nilIface])/\Rol w' w (Ro.new nd ep))/\Below w w w':=by
 have HP:Hid (isEpR ep=true):=isEpR_iff.2 ⟨h0,h1⟩
 clear h0 h1
 rcases h with rfl | rfl
 all_goals
  go_enter Tryz.func169,Tryz.ntmps169
  go_wp2_with fail
  refine(isEpochR_any ep w).mono ?_
  rintro e w' ⟨rfl,rfl⟩
  rw[HP.out]
  go_wp2_with fail
  go_ret2
  exact⟨⟨rfl,heap_alloc_new _ _⟩,aB _ _⟩
theorem tmod2 {n:Int} (h:0<=n):Int.tmod n 2=n % 2:=Int.tmod_eq_emod_of_nonneg h
theorem next_any (b:Nat) (r:Ro) (s:Nat->Addr) (w:World) (R:Rol w b r) (K:r.Ok) (S:Se3 w s) :
  Calls Tryz.prog 209 #[.pointer (some (b,0))] w fun e w'=>e=.returned (.tuple #[r.nxV,terr s r.nxE])/\Below w w w':=by
 obtain⟨nd,ep,si,ac⟩:=r
 have k0:0<=ep:=K.e0
 have k1:ep<=1073741824:=K.e1
 have g0:w.cell? (b,0)=nd:=R.c0
 have g1:w.cell? (b,1)=ep:=R.c1
 have c1:=S.c1
 clear R K S
 have hw:IntKind.i64.wrap (ep+1)=ep+1:=by rw[IntKind.wrap_i64];omega
 have hw2:IntKind.i64.wrap (ep+1+1)=ep+2:=by rw[IntKind.wrap_i64];omega
 have hm:=tmod2 (n:=ep+1) (by omega)
 have HP:∀x:Int,Hid ((⟨nd,ep,si,ac⟩:Ro).nx=x)->0<=x->Hid (isEpR x=!decide (1073741824 < x)):=fun x _ h=>by
  show(decide (0<=x) && decide (x<=1073741824))=_
  rw[decide_eq_true h,Bool.true_and]
  by_cases h2:1073741824 < x
  ·rw[decide_eq_true h2,decide_eq_false (by omega)];rfl
  ·rw[decide_eq_false h2,decide_eq_true (by omega)];rfl
 by_cases hp:(ep+1) % 2=nd
 ·have HX:Hid ((⟨nd,ep,si,ac⟩:Ro).nx=ep+1):=by show(if _ then _ else _)=_;rw[if_pos hp]
  have HQ:=HP _ HX (by omega)
  clear HP
  have hne:((ep+1) % 2==nd)=true:=beq_iff_eq.2 hp
  by_cases h2:1073741824 < ep+1
  ·have HV:Hid ((⟨nd,ep,si,ac⟩:Ro).nxV=0/\(⟨nd,ep,si,ac⟩:Ro).nxE=2):=by show _/\_;unfold Ro.nxV Ro.nxE;rw[HX.out,if_pos h2,if_pos h2];exact⟨rfl,rfl⟩
   rw[decide_eq_true h2]at HQ
   go_enter Tryz.func209,Tryz.ntmps209
   go_wp2_with fail
   refine(isEpochR_any _ w).mono ?_
   rintro e w' ⟨rfl,rfl⟩
   rw[HQ.out]
   go_wp2_with fail
   go_region
   go_wp2_with fail
   go_ret2
   exact⟨by rw[HV.1,HV.2];rfl,(Below.refl _ _).drew⟩
  ·have HV:Hid ((⟨nd,ep,si,ac⟩:Ro).nxV=ep+1/\(⟨nd,ep,si,ac⟩:Ro).nxE=0):=by show _/\_;unfold Ro.nxV Ro.nxE;rw[HX.out,if_neg h2,if_neg h2];exact⟨rfl,rfl⟩
   rw[decide_eq_false h2]at HQ
   go_enter Tryz.func209,Tryz.ntmps209
   go_wp2_with fail
   refine(isEpochR_any _ w).mono ?_
   rintro e w' ⟨rfl,rfl⟩
   rw[HQ.out]
   go_wp2_with fail
   go_ret2
   exact⟨by rw[HV.1,HV.2];rfl,Below.refl _ _⟩
 ·have HX:Hid ((⟨nd,ep,si,ac⟩:Ro).nx=ep+2):=by show(if _ then _ else _)=_;rw[if_neg hp]
  have HQ:=HP _ HX (by omega)
  clear HP
  have hne:((ep+1) % 2==nd)=false:=beq_eq_false_iff_ne.2 hp
  by_cases h2:1073741824 < ep+2
  ·have HV:Hid ((⟨nd,ep,si,ac⟩:Ro).nxV=0/\(⟨nd,ep,si,ac⟩:Ro).nxE=2):=by show _/\_;unfold Ro.nxV Ro.nxE;rw[HX.out,if_pos h2,if_pos h2];exact⟨rfl,rfl⟩
   rw[decide_eq_true h2]at HQ
   go_enter Tryz.func209,Tryz.ntmps209
   go_wp2_with fail
   refine(isEpochR_any _ w).mono ?_
   rintro e w' ⟨rfl,rfl⟩
   rw[HQ.out]
   go_wp2_with fail
   go_region
   go_wp2_with fail
   go_ret2
   exact⟨by rw[HV.1,HV.2];rfl,(Below.refl _ _).drew⟩
  ·have HV:Hid ((⟨nd,ep,si,ac⟩:Ro).nxV=ep+2/\(⟨nd,ep,si,ac⟩:Ro).nxE=0):=by show _/\_;unfold Ro.nxV Ro.nxE;rw[HX.out,if_neg h2,if_neg h2];exact⟨rfl,rfl⟩
   rw[decide_eq_false h2]at HQ
   go_enter Tryz.func209,Tryz.ntmps209
   go_wp2_with fail
   refine(isEpochR_any _ w).mono ?_
   rintro e w' ⟨rfl,rfl⟩
   rw[HQ.out]
   go_wp2_with fail
   go_ret2
   exact⟨by rw[HV.1,HV.2];rfl,Below.refl _ _⟩
end
theorem claim_any (b:Nat) (r:Ro) (n:Int) (s:Nat->Addr) (w:World) (R:Rol w b r) (K:r.Ok) (S:Se3 w s) :
  Calls Tryz.prog 211 #[.pointer (some (b,0)),n] w fun e w'=>e=.returned (terr s (r.clE n))/\Rol w' b (r.claim n)/\Chg b w w':=by
 have HR:Hid (Rol w b r):=R
 have HK:Hid r.Ok:=K
 have HS:Hid (Se3 w s):=S
 clear R K S
 cases ha:r.ac
 ·by_cases h2:1073741824 < r.nx
  ·have HE:Hid (r.clE n=2):=by show _=_;unfold Ro.clE;rw[ha,if_neg (by simp),if_pos h2]
   have HQ:Hid (r.claim n=r):=by show _=_;unfold Ro.claim;rw[HE.out];rfl
   have HV:Hid (r.nxV=0/\r.nxE=2):=by show _/\_;unfold Ro.nxV Ro.nxE;rw[if_pos h2,if_pos h2];exact⟨rfl,rfl⟩
   have HA:Hid (r.ac=false):=ha
   clear ha h2
   go_enter Tryz.func211,Tryz.ntmps211
   go_wp2_with fail
   refine(active_any b r w HR).mono ?_
   rintro e w1 ⟨rfl,rfl⟩
   rw[HA.out]
   go_wp2_with fail
   refine(next_any b r s _ HR HK HS).mono ?_
   rintro e w2 ⟨rfl,hb⟩
   have B2:Hid (Below w1 w1 w2):=hb
   clear hb
   rw[HV.1,HV.2]
   simp only[terr]
   go_wp2_with fail
   go_ret
   exact⟨by rw[HE.out];rfl,by rw[HQ.out];exact HR.below B2,Chg.of B2.out⟩
  ·have HV:Hid (r.nxV=r.nx/\r.nxE=0):=by show _/\_;unfold Ro.nxV Ro.nxE;rw[if_neg h2,if_neg h2];exact⟨rfl,rfl⟩
   by_cases hn:n=r.nx
   ·have HE:Hid (r.clE n=0):=by show _=_;unfold Ro.clE;rw[ha,if_neg (by simp),if_neg h2,if_pos hn]
    have HQ:Hid (r.claim n=⟨r.nd,n,r.si,true⟩):=by show _=_;unfold Ro.claim;rw[HE.out];rfl
    have HA:Hid (r.ac=false):=ha
    have HN:Hid (r.nx=n):=hn.symm
    clear ha h2 hn
    go_enter Tryz.func211,Tryz.ntmps211
    go_wp2_with fail
    refine(active_any b r w HR).mono ?_
    rintro e w1 ⟨rfl,rfl⟩
    rw[HA.out]
    go_wp2_with fail
    refine(next_any b r s _ HR HK HS).mono ?_
    rintro e w2 ⟨rfl,hb⟩
    have B2:Hid (Below w1 w1 w2):=hb
    clear hb
    rw[HV.1,HV.2,HN.out]
    simp only[terr]
    have R2:Hid (Rol w2 b r):=HR.below B2
    have c1:=R2.c1
    have c3:=R2.c3
    have f1:=R2.fr 1
    have f3:=R2.fr 3
    go_wp2_with fail
    go_ret
    exact⟨by rw[HE.out];rfl,by rw[HQ.out];exact(R2.ep n).ac true,((Chg.of B2.out).trans (Chg.set _ _ _ _)).trans (Chg.set _ _ _ _)⟩
   ·have HE:Hid (r.clE n=3):=by show _=_;unfold Ro.clE;rw[ha,if_neg (by simp),if_neg h2,if_neg hn]
    have HQ:Hid (r.claim n=r):=by show _=_;unfold Ro.claim;rw[HE.out];rfl
    have HA:Hid (r.ac=false):=ha
    clear ha h2
    generalize hx:r.nx=x at *
    have HX:Hid (r.nx=x):=hx
    clear hx
    go_enter Tryz.func211,Tryz.ntmps211
    go_wp2_with fail
    refine(active_any b r w HR).mono ?_
    rintro e w1 ⟨rfl,rfl⟩
    rw[HA.out]
    go_wp2_with fail
    refine(next_any b r s _ HR HK HS).mono ?_
    rintro e w2 ⟨rfl,hb⟩
    have B2:Hid (Below w1 w1 w2):=hb
    clear hb
    rw[HV.1,HV.2]
    simp only[terr]
    have g2:=(HS.below B2).c2
    go_wp2_with fail
    go_ret
    exact⟨by rw[HE.out];rfl,by rw[HQ.out];exact HR.below B2,Chg.of B2.out⟩
 ·have HE:Hid (r.clE n=11):=by show _=_;unfold Ro.clE;rw[ha,if_pos rfl]
  have HQ:Hid (r.claim n=r):=by show _=_;unfold Ro.claim;rw[HE.out];rfl
  have HA:Hid (r.ac=true):=ha
  clear ha
  have g10:=HS.c10
  go_enter Tryz.func211,Tryz.ntmps211
  go_wp2_with fail
  refine(active_any b r w HR).mono ?_
  rintro e w1 ⟨rfl,rfl⟩
  rw[HA.out]
  go_wp2_with fail
  go_ret
  exact⟨by rw[HE.out];rfl,by rw[HQ.out];exact HR,Chg.refl _ _⟩
structure Rl1 (w0 w:World) (b:Nat) (r:Ro):Prop where
 y:Rol w b r
 k:r.Ok
 hb:w0.heap.size<=b
 bl:Below w0 w0 w
theorem Rl1.below {w0 w w':World} {b:Nat} {r:Ro} (h:Rl1 w0 w b r) (k:Below w w w'):Rl1 w0 w' b r:=⟨h.y.below k,h.k,h.hb,t2 h.bl k⟩
section
variable {l:List Nat} {w w' w0:World} {b n m:Nat} {id life now:Int} {p:Option Addr} {x:No}
structure ChgL (l:List Nat) (w w':World):Prop where
 os:w'.os=w.os
 tape:w'.tape=w.tape
 output:w'.output=w.output
 size:w.heap.size<=w'.heap.size
 block:∀k,k < w.heap.size->¬k ∈ l->w'.heap[k]? = w.heap[k]?
theorem ChgL.of (h:Below w w w'):ChgL l w w':=⟨h.os,h.tape,h.output,h.size,fun k hk _=>h.block k hk⟩
theorem ChgL.refl (l:List Nat) (w:World):ChgL l w w:=ChgL.of (Below.refl _ _)
theorem ChgL.trans {u v:World} (h:ChgL l u v) (k:ChgL l v w):ChgL l u w :=
 ⟨k.os.trans h.os,k.tape.trans h.tape,k.output.trans h.output,Nat.le_trans h.size k.size,fun i hi hn=>(k.block i (Nat.lt_of_lt_of_le hi h.size) hn).trans (h.block i hi hn)⟩
theorem ChgL.then {u v:World} (h:ChgL l u v) (k:Below v v w):ChgL l u w:=h.trans (ChgL.of k)
theorem ChgL.one (h:Chg b w w') (hb:b ∈ l):ChgL l w w' :=
 ⟨h.os,h.tape,h.output,h.size,fun k hk hn=>h.block k hk (fun e=>hn (e ▸ hb))⟩
theorem ChgL.two {c:Nat} (h:Chg2 b c w w') (hb:b ∈ l) (hc:c ∈ l):ChgL l w w' :=
 ⟨h.os,h.tape,h.output,h.size,fun k hk hn=>h.block k hk (fun e=>hn (e ▸ hb)) (fun e=>hn (e ▸ hc))⟩
theorem ChgL.below (h:Below w0 w0 w) (k:ChgL l w w') (hb:∀b ∈ l,w0.heap.size<=b):Below w0 w0 w' :=
 h.trans ⟨k.os,k.tape,k.output,k.size,fun i hi=>k.block i (Nat.lt_of_lt_of_le hi h.size) (fun hm=>by have:=hb i hm;omega)⟩
theorem ChgL.keeps (h:ChgL l w w') {a:Addr} {v:Value} (hn:¬a.block ∈ l) (hc:w.cell? a=some v):w'.cell? a=some v:=by
 rw[World.cell?_of_block (w:=w) (h.block a.block (tlt hc) hn)];exact hc
theorem ChgL.mono {l':List Nat} (h:ChgL l w w') (hl:∀b ∈ l,b ∈ l'\/w.heap.size<=b):ChgL l' w w' :=
 ⟨h.os,h.tape,h.output,h.size,fun k hk hn=>h.block k hk (fun hm=>by rcases hl k hm with h | h;exact hn h;omega)⟩
structure Bk where
 nd:Nat
 ro:Nat
 ce:Nat
 yb:Nat
 te:Nat
 tb:Nat
 mp:Nat
 mi:Nat
 rp:Option Addr
 rc:Nat
def Bk.all (k:Bk):List Nat:=[k.nd,k.ro,k.ce,k.yb,k.te,k.tb,k.mp,k.mi]
structure Bk.Ds (k:Bk):Prop where
 d1:k.nd≠k.ro/\k.nd≠k.ce/\k.nd≠k.yb/\k.nd≠k.te/\k.nd≠k.tb/\k.nd≠k.mp/\k.nd≠k.mi
 d2:k.ro≠k.ce/\k.ro≠k.yb/\k.ro≠k.te/\k.ro≠k.tb/\k.ro≠k.mp/\k.ro≠k.mi
 d3:k.ce≠k.yb/\k.ce≠k.te/\k.ce≠k.tb/\k.ce≠k.mp/\k.ce≠k.mi
 d4:k.yb≠k.te/\k.yb≠k.tb/\k.yb≠k.mp/\k.yb≠k.mi
 d5:k.te≠k.tb/\k.te≠k.mp/\k.te≠k.mi
 d6:k.tb≠k.mp/\k.tb≠k.mi/\k.mp≠k.mi
def NdB (w:World) (k:Bk) (id life now:Int) (n:Nat):Prop:=w.heap[k.nd]? = some (.cells #[.pointer (some (k.ro,0)),id,life,now,.slice k.rp n k.rc,.pointer (some (k.ce,0)),.pointer (some (k.te,0)),.pointer (some (k.mi,0))] 138 (0,0))
theorem NdB.lt {k:Bk} (h:NdB w k id life now n):k.nd < w.heap.size:=by
 rcases Nat.lt_or_ge k.nd w with a | a
 ·exact a
 ·unfold NdB at h;rw[Array.getElem?_eq_none a]at h;cases h
theorem NdB.kept {k:Bk} (h:NdB w k id life now n) (e:w'.heap[k.nd]? = w.heap[k.nd]?):NdB w' k id life now n:=by unfold NdB;rw[e];exact h
theorem NdB.c {k:Bk} (h:NdB w k id life now n) (i:Nat):w.cell? (k.nd,i)=(#[.pointer (some (k.ro,0)),id,life,now,.slice k.rp n k.rc,.pointer (some (k.ce,0)),.pointer (some (k.te,0)),.pointer (some (k.mi,0))]:Array Value)[i]? := cell_of_row w _ _ _ _ _ h
theorem NdB.fr {k:Bk} (h:NdB w k id life now n) (i:Nat):w.frozen? (k.nd,i)=false:=frozen_of_row w _ i _ _ h
theorem NdB.setNow {k:Bk} (h:NdB w k id life now n) (t:Int):NdB (w.setCell (k.nd,3) t) k id life t n:=by unfold NdB;rw[heap_setCell_same w _ _ _ _ _ h];rfl
theorem ToldM.keptL {M:Nat} {D:To} (h:ToldM w M n D) (c:ChgL l w w') (hn:¬M ∈ l):ToldM w' M n D:=by
 obtain⟨d,e1,e2⟩:=h
 have hl:=e1.lt
 obtain⟨es,ck,a1,a2⟩:=e1
 exact⟨d,⟨es,ck,by rw[c.block M hl hn];exact a1,a2⟩,e2⟩
theorem Rul.chg {l:List Rl} (R:Rul w p l) (c:Chg b w w') (h:l≠[]->∀a,p=some a->a.block≠b):Rul w' p l:=fun i r hr=>by
 have hne:l≠[]:=by intro e;subst e;simp at hr
 obtain⟨g,o,e,h0,h1,h2,h3,h4⟩:=R i r hr
 have hb:=h hne _ e
 exact⟨g,o,e,c.keeps hb h0,c.keeps hb h1,c.keeps hb h2,c.keeps hb h3,c.keeps hb h4⟩
theorem Rul.chg2 {l:List Rl} {d:Nat} (R:Rul w p l) (c:Chg2 b d w w') (h:l≠[]->(∀a,p=some a->a.block≠b)/\(∀a,p=some a->a.block≠d)):Rul w' p l:=fun i r hr=>by
 have hne:l≠[]:=by intro e;subst e;simp at hr
 obtain⟨g,o,e,h0,h1,h2,h3,h4⟩:=R i r hr
 have hb:=(h hne).1 _ e
 have hd:=(h hne).2 _ e
 exact⟨g,o,e,c.keeps hb hd h0,c.keeps hb hd h1,c.keeps hb hd h2,c.keeps hb hd h3,c.keeps hb hd h4⟩
structure Nd (w0 w:World) (k:Bk) (x:No) (m n:Nat):Prop where
 nd:NdB w k x.id x.life x.now x.ru.length
 ro:Rol w k.ro x.ro
 rk:x.ro.Ok
 ce:Cel w k.ce k.yb x.off
 yb:Byt w k.yb x.y
 lf:x.y.left<=9223372036854775807
 tb:Tab w k.tb x.low x.T
 vs:Vers x.T m
 wt:WfT x.T
 te:Tel w k.te k.tb k.mp n x.D x.cu
 mi:Mir w k.mi x.ml x.mt
 wm:WfT x.mt
 ru:Rul w k.rp x.ru
 ds:k.Ds
 g0:∀b ∈ k.all,w0.heap.size<=b
 rb:x.ru≠[]->∀a,k.rp=some a->w0.heap.size<=a.block/\¬a.block ∈ k.all
 id:x.id=0\/x.id=1
 bl:Below w0 w0 w
theorem Bk.m_nd (k:Bk):k.nd ∈ k.all:=by simp[Bk.all]
theorem Bk.m_ro (k:Bk):k.ro ∈ k.all:=by simp[Bk.all]
theorem Bk.m_ce (k:Bk):k.ce ∈ k.all:=by simp[Bk.all]
theorem Bk.m_yb (k:Bk):k.yb ∈ k.all:=by simp[Bk.all]
theorem Bk.m_te (k:Bk):k.te ∈ k.all:=by simp[Bk.all]
theorem Bk.m_tb (k:Bk):k.tb ∈ k.all:=by simp[Bk.all]
theorem Bk.m_mp (k:Bk):k.mp ∈ k.all:=by simp[Bk.all]
theorem Bk.m_mi (k:Bk):k.mi ∈ k.all:=by simp[Bk.all]
theorem Rul.kept {l:List Rl} (R:Rul w p l) (h:l≠[]->∀a,p=some a->w'.heap[a.block]? = w.heap[a.block]?):Rul w' p l:=by
 intro i r hr
 have hne:l≠[]:=by intro e;subst e;simp at hr
 obtain⟨b,o,e,h0,h1,h2,h3,h4⟩:=R i r hr
 have hb:w'.heap[b]? = w.heap[b]? := h hne _ e
 exact⟨b,o,e,by rw[World.cell?_of_block (w:=w) hb];exact h0,by rw[World.cell?_of_block (w:=w) hb];exact h1,by rw[World.cell?_of_block (w:=w) hb];exact h2,by rw[World.cell?_of_block (w:=w) hb];exact h3,by rw[World.cell?_of_block (w:=w) hb];exact h4⟩
theorem Rol.kept {r:Ro} (h:Rol w b r) (e:w'.heap[b]? = w.heap[b]?):Rol w' b r:=by unfold Rol;rw[e];exact h
theorem Cel.kept {c:Nat} {off:Bool} (h:Cel w c b off) (e:w'.heap[c]? = w.heap[c]?):Cel w' c b off :=
 ⟨by rw[World.cell?_of_block (w:=w) e];exact h.c0,by rw[World.cell?_of_block (w:=w) e];exact h.c1,by rw[World.frozen?_of_block (w:=w) e];exact h.f1⟩
theorem Byt.kept {s:By} (h:Byt w b s) (e:w'.heap[b]? = w.heap[b]?):Byt w' b s:=⟨by rw[e];exact h.1,h.2⟩
theorem Tab.kept {low:Int} {T:Tb} (h:Tab w b low T) (e:w'.heap[b]? = w.heap[b]?):Tab w' b low T:=by unfold Tab;rw[e];exact h
theorem Mir.kept {l:Int} {T:Tb} (h:Mir w b l T) (e:w'.heap[b]? = w.heap[b]?):Mir w' b l T:=by unfold Mir;rw[e];exact h
theorem Nd.kept {k:Bk} (h:Nd w0 w k x m n) {l:List Nat} (c:ChgL l w w') (hl:∀b ∈ k.all,¬b ∈ l) (hr:x.ru≠[]->∀a,k.rp=some a->¬a.block ∈ l) (h0:∀b ∈ l,w0.heap.size<=b):Nd w0 w' k x m n where
 nd:=h.nd.kept (c.block _ h.nd.lt (hl _ k.m_nd))
 ro:=h.ro.kept (c.block _ h.ro.lt (hl _ k.m_ro))
 rk:=h.rk
 ce:=h.ce.kept (c.block _ h.ce.lt (hl _ k.m_ce))
 yb:=h.yb.kept (c.block _ h.yb.lt (hl _ k.m_yb))
 lf:=h.lf
 tb:=h.tb.kept (c.block _ h.tb.lt (hl _ k.m_tb))
 vs:=h.vs
 wt:=h.wt
 te:=by
  obtain⟨q0,q1,q2,q3,q4,q5,q6⟩:=h.te
  have e:=c.block k.te (tlt q0) (hl _ k.m_te)
  exact⟨by rw[World.cell?_of_block (w:=w) e];exact q0,by rw[World.cell?_of_block (w:=w) e];exact q1,by rw[World.cell?_of_block (w:=w) e];exact q2,by rw[World.frozen?_of_block (w:=w) e];exact q3,q4.keptL c (hl _ k.m_mp),q5,q6⟩
 mi:=h.mi.kept (c.block _ h.mi.lt (hl _ k.m_mi))
 wm:=h.wm
 ru:=h.ru.kept (fun hn a e=>by
  rcases Nat.lt_or_ge a.block w with q | q
  ·exact c.block _ q (hr hn a e)
  ·exfalso
   obtain⟨r,hr'⟩:=List.exists_mem_of_ne_nil _ hn
   obtain⟨i,hi⟩:=List.getElem?_of_mem hr'
   obtain⟨b,o,e2,h0,_⟩:=h.ru i r hi
   rw[e]at e2
   cases e2
   have:=tlt h0
   simp only at this q
   omega)
 ds:=h.ds
 g0:=h.g0
 rb:=h.rb
 id:=h.id
 bl:=ChgL.below h.bl c h0
theorem Nd.below {k:Bk} (h:Nd w0 w k x m n) (c:Below w w w'):Nd w0 w' k x m n :=
 h.kept (l:=[]) (ChgL.of c) (fun _ _=>by simp) (fun _ _ _=>by simp) (fun _ hb=>by simp at hb)
theorem Nd.rlt {k:Bk} (h:Nd w0 w k x m n) (hn:x.ru≠[]) (b:Nat) (hb:b ∈ k.all):∀a,k.rp=some a->a.block≠b:=fun a e q=>(h.rb hn a e).2 (q ▸ hb)
theorem Nd.onRo {k:Bk} (h:Nd w0 w k x m n) {r:Ro} (t:Rol w' k.ro r) (K:r.Ok) (c:Chg k.ro w w'):Nd w0 w' k {x with ro:=r} m n where
 nd:=h.nd.kept (c.block _ h.nd.lt (by have:=h.ds.d1;omega))
 ro:=t
 rk:=K
 ce:=h.ce.chg c (by have:=h.ds.d2;omega)
 yb:=h.yb.chg c (by have:=h.ds.d2;omega)
 lf:=h.lf
 tb:=h.tb.chg c (by have:=h.ds.d2;omega)
 vs:=h.vs
 wt:=h.wt
 te:=h.te.chg c (by have:=h.ds.d2;omega) (by have:=h.ds.d2;omega)
 mi:=h.mi.chg c (by have:=h.ds.d2;omega)
 wm:=h.wm
 ru:=h.ru.chg c (fun hn=>h.rlt hn _ k.m_ro)
 ds:=h.ds
 g0:=h.g0
 rb:=h.rb
 id:=h.id
 bl:=Chg.below h.bl c (h.g0 _ k.m_ro)
theorem Nd.onTb {k:Bk} (h:Nd w0 w k x m n) {T:Tb} {m':Nat} (t:Tab w' k.tb x.low T) (v:Vers T m') (u:WfT T) (c:Chg k.tb w w'):Nd w0 w' k {x with T:=T} m' n where
 nd:=h.nd.kept (c.block _ h.nd.lt (by have:=h.ds.d1;omega))
 ro:=h.ro.chg c (by have:=h.ds.d2;omega)
 rk:=h.rk
 ce:=h.ce.chg c (by have:=h.ds.d3;omega)
 yb:=h.yb.chg c (by have:=h.ds.d4;omega)
 lf:=h.lf
 tb:=t
 vs:=v
 wt:=u
 te:=h.te.chg c (by have:=h.ds.d5;omega) (by have:=h.ds.d6;omega)
 mi:=h.mi.chg c (by have:=h.ds.d6;omega)
 wm:=h.wm
 ru:=h.ru.chg c (fun hn=>h.rlt hn _ k.m_tb)
 ds:=h.ds
 g0:=h.g0
 rb:=h.rb
 id:=h.id
 bl:=Chg.below h.bl c (h.g0 _ k.m_tb)
theorem Nd.onTe {k:Bk} (h:Nd w0 w k x m n) {D:To} {cu n':Nat} (t:Tel w' k.te k.tb k.mp n' D cu) (c:Chg2 k.te k.mp w w'):Nd w0 w' k {x with D:=D,cu:=cu} m n' where
 nd:=h.nd.kept (c.block _ h.nd.lt (by have:=h.ds.d1;omega) (by have:=h.ds.d1;omega))
 ro:=h.ro.kept (c.block _ h.ro.lt (by have:=h.ds.d2;omega) (by have:=h.ds.d2;omega))
 rk:=h.rk
 ce:=h.ce.kept (c.block _ h.ce.lt (by have:=h.ds.d3;omega) (by have:=h.ds.d3;omega))
 yb:=h.yb.kept (c.block _ h.yb.lt (by have:=h.ds.d4;omega) (by have:=h.ds.d4;omega))
 lf:=h.lf
 tb:=h.tb.kept (c.block _ h.tb.lt (by have:=h.ds.d5;omega) (by have:=h.ds.d6;omega))
 vs:=h.vs
 wt:=h.wt
 te:=t
 mi:=h.mi.kept (c.block _ h.mi.lt (by have:=h.ds.d5;omega) (by have:=h.ds.d6;omega))
 wm:=h.wm
 ru:=(h.ru.chg2 c (fun hn=>⟨h.rlt hn _ k.m_te,h.rlt hn _ k.m_mp⟩))
 ds:=h.ds
 g0:=h.g0
 rb:=h.rb
 id:=h.id
 bl:=Chg2.below h.bl c (h.g0 _ k.m_te) (h.g0 _ k.m_mp)
theorem Nd.onCe {k:Bk} (h:Nd w0 w k x m n) {s:By} {off:Bool} (t:Byt w' k.yb s) (u:Cel w' k.ce k.yb off) (hl:s.left<=9223372036854775807) (c:Chg2 k.yb k.ce w w'):Nd w0 w' k {x with y:=s,off:=off} m n where
 nd:=h.nd.kept (c.block _ h.nd.lt (by have:=h.ds.d1;omega) (by have:=h.ds.d1;omega))
 ro:=h.ro.kept (c.block _ h.ro.lt (by have:=h.ds.d2;omega) (by have:=h.ds.d2;omega))
 rk:=h.rk
 ce:=u
 yb:=t
 lf:=hl
 tb:=h.tb.kept (c.block _ h.tb.lt (by have:=h.ds.d4;omega) (by have:=h.ds.d3;omega))
 vs:=h.vs
 wt:=h.wt
 te:=h.te.chg2 c (by have:=h.ds.d4;omega) (by have:=h.ds.d3;omega) (by have:=h.ds.d4;omega) (by have:=h.ds.d3;omega)
 mi:=h.mi.kept (c.block _ h.mi.lt (by have:=h.ds.d4;omega) (by have:=h.ds.d3;omega))
 wm:=h.wm
 ru:=(h.ru.chg2 c (fun hn=>⟨h.rlt hn _ k.m_yb,h.rlt hn _ k.m_ce⟩))
 ds:=h.ds
 g0:=h.g0
 rb:=h.rb
 id:=h.id
 bl:=Chg2.below h.bl c (h.g0 _ k.m_yb) (h.g0 _ k.m_ce)
theorem Nd.onMi {k:Bk} (h:Nd w0 w k x m n) {l:Int} {T:Tb} (t:Mir w' k.mi l T) (u:WfT T) (c:Chg k.mi w w'):Nd w0 w' k {x with ml:=l,mt:=T} m n where
 nd:=h.nd.kept (c.block _ h.nd.lt (by have:=h.ds.d1;omega))
 ro:=h.ro.chg c (by have:=h.ds.d2;omega)
 rk:=h.rk
 ce:=h.ce.chg c (by have:=h.ds.d3;omega)
 yb:=h.yb.chg c (by have:=h.ds.d4;omega)
 lf:=h.lf
 tb:=h.tb.chg c (by have:=h.ds.d6;omega)
 vs:=h.vs
 wt:=h.wt
 te:=h.te.chg c (by have:=h.ds.d5;omega) (by have:=h.ds.d6;omega)
 mi:=t
 wm:=u
 ru:=h.ru.chg c (fun hn=>h.rlt hn _ k.m_mi)
 ds:=h.ds
 g0:=h.g0
 rb:=h.rb
 id:=h.id
 bl:=Chg.below h.bl c (h.g0 _ k.m_mi)
theorem Nd.onNow {k:Bk} (h:Nd w0 w k x m n) (t:Int):Nd w0 (w.setCell (k.nd,3) t) k {x with now:=t} m n:=by
 have c:Chg k.nd w (w.setCell (k.nd,3) t):=Chg.set _ _ _ _
 exact {
  nd:=h.nd.setNow t
  ro:=h.ro.chg c (by have:=h.ds.d1;omega)
  rk:=h.rk
  ce:=h.ce.chg c (by have:=h.ds.d1;omega)
  yb:=h.yb.chg c (by have:=h.ds.d1;omega)
  lf:=h.lf
  tb:=h.tb.chg c (by have:=h.ds.d1;omega)
  vs:=h.vs
  wt:=h.wt
  te:=h.te.chg c (by have:=h.ds.d1;omega) (by have:=h.ds.d1;omega)
  mi:=h.mi.chg c (by have:=h.ds.d1;omega)
  wm:=h.wm
  ru:=h.ru.chg c (fun hn=>h.rlt hn _ k.m_nd)
  ds:=h.ds
  g0:=h.g0
  rb:=h.rb
  id:=h.id
  bl:=Chg.below h.bl c (h.g0 _ k.m_nd)}
end
section
variable {k:Nat}
theorem held_spec {B:List UInt8} (h:isHeld B k=true):(slotN B k).n % 2=k/\1<=(slotN B k).n:=by
 unfold isHeld heldB at h
 simp only[Bool.and_eq_true,decide_eq_true_eq,beq_iff_eq]at h
 exact⟨h.2,h.1.2⟩
theorem slotL_at (B:List UInt8) (k i:Nat) (hi:i < 16):(slotL B k)[i]? = B[20 * k+i]? := by
 unfold slotL
 rw[List.getElem?_take,if_pos hi,List.getElem?_drop]
theorem slotL_congr {B B':List UInt8} (h:∀i,i < 17->B'[20 * k+i]? = B[20 * k+i]?):slotL B' k=slotL B k/\slotM B' k=slotM B k:=by
 constructor
 ·apply List.ext_getElem?
  intro i
  by_cases hi:i < 16
  ·rw[slotL_at _ _ _ hi,slotL_at _ _ _ hi,h i (by omega)]
  ·unfold slotL
   rw[List.getElem?_take,if_neg hi,List.getElem?_take,if_neg hi]
 ·unfold slotM
  rw[List.getD_eq_getElem?_getD,List.getD_eq_getElem?_getD,h 16 (by omega)]
theorem slot_congr {B B':List UInt8} (h:∀i,i < 17->B'[20 * k+i]? = B[20 * k+i]?):isHeld B' k=isHeld B k/\slotN B' k=slotN B k:=by
 obtain⟨h1,h2⟩:=slotL_congr h
 unfold isHeld slotN
 rw[h1,h2]
 exact⟨rfl,rfl⟩
theorem seqW_mem:∀(L:List UInt8) (a:Nat) (q:Nat×UInt8),q ∈ seqW a L->a<=q.1/\q.1 < a+L.length
 | [],_,q,h=>by simp[seqW]at h
 | v::L,a,q,h=>by
  unfold seqW at h
  rcases List.mem_cons.1 h with rfl | h
  ·simp
  ·have:=seqW_mem L (a+1) q h
   simp
   omega
theorem seqW_len:∀(L:List UInt8) (a:Nat),(seqW a L).length=L.length
 | [],_=>rfl
 | v::L,a=>by simp[seqW,seqW_len L]
theorem putW_mem (B:List UInt8) (x:Nm) (q:Nat×UInt8) (h:q ∈ putW B x):20 * (x.n % 2)<=q.1/\q.1<=20 * (x.n % 2)+16:=by
 unfold putW preW at h
 rcases List.mem_append.1 h with h | h
 ·split at h
  ·simp at h
  ·rw[List.mem_singleton]at h
   subst h
   simp
 ·rcases List.mem_append.1 h with h | h
  ·have:=seqW_mem _ _ _ h
   rw[img_len]at this
   omega
  ·rw[List.mem_singleton]at h
   subst h
   simp
theorem app_seq:∀(L:List UInt8) (a:Nat) (B:List UInt8),a+L.length<=B.length->app B (seqW a L)=B.take a++(L++B.drop (a+L.length))
 | [],a,B,_=>by simp[seqW,app]
 | v::L,a,B,h=>by
  have ih:=app_seq L (a+1) (B.set a v) (by simp at h ⊢;omega)
  show app (B.set a v) (seqW (a+1) L)=_
  rw[ih]
  simp only[List.length_cons]at h ⊢
  have e1:(B.set a v).take (a+1)=B.take a++[v]:=by
   rw[List.take_succ_eq_append_getElem (by rw[List.length_set];omega),List.getElem_set_self,List.take_set_of_le (by omega)]
  have e2:(B.set a v).drop (a+1+L.length)=B.drop (a+(L.length+1)):=by
   rw[List.drop_set_of_lt (by omega),show a+1+L.length=a+(L.length+1) from by omega]
  rw[e1,e2]
  simp
theorem put_other {B:List UInt8} {x:Nm} {l:List (Nat×UInt8)} (hl:∀q,q ∈ l->q ∈ putW B x) (k:Nat) (hn:k≠x.n % 2):isHeld (app B l) k=isHeld B k/\slotN (app B l) k=slotN B k:=by
 apply slot_congr
 intro i hi
 apply app_other
 intro q hq
 have:=putW_mem B x q (hl q hq)
 omega
theorem putW_len (B:List UInt8) (x:Nm):(putW B x).length=(preW B (20 * (x.n % 2))).length+17:=by
 unfold putW
 rw[List.length_append,List.length_append,seqW_len,img_len]
 rfl
theorem put_part {B:List UInt8} (hB:B.length=64) (x:Nm) (j:Nat) (hj:j < (putW B x).length):app B ((putW B x).take j)=B\/slotM (app B ((putW B x).take j)) (x.n % 2)=0:=by
 have hseq:∀(C:List UInt8) (i:Nat),C.getD (20 * (x.n % 2)+16) 0=0->slotM (app C ((seqW (20 * (x.n % 2)) (img x)).take i)) (x.n % 2)=0:=fun C i hc=>by
  unfold slotM
  rw[List.getD_eq_getElem?_getD,app_other _ _ _ (fun q hq=>?_),<- List.getD_eq_getElem?_getD,hc]
  have:=seqW_mem _ _ _ (List.mem_of_mem_take hq)
  rw[img_len]at this
  omega
 rw[putW_len]at hj
 unfold putW
 unfold preW at hj ⊢
 split
 ·rename_i h0
  right
  rw[if_pos h0]at hj
  rw[List.nil_append,List.take_append_of_le_length (by rw[seqW_len,img_len];simp at hj;omega)]
  exact hseq B j h0
 ·rename_i h0
  rw[if_neg h0]at hj
  cases j with
  | zero=>left;rfl
  | succ j =>
   right
   rw[List.cons_append,List.take_succ_cons,List.nil_append,List.take_append_of_le_length (by rw[seqW_len,img_len];simp at hj;omega)]
   show slotM (app (B.set (20 * (x.n % 2)+16) 0) _) _=0
   apply hseq
   rw[List.getD_eq_getElem?_getD,List.getElem?_set_self (by omega)]
   rfl
theorem unmarked {B:List UInt8} (h:slotM B k=0):isHeld B k=false:=by
 unfold isHeld heldB
 rw[h]
 rfl
theorem put_whole {B:List UInt8} (hB:B.length=64) {x:Nm} (h0:1<=x.n) (h1:x.n < 4294967296) (h2:x.e < 4294967296) (h3:x.l < 4294967296):isHeld (app B (putW B x)) (x.n % 2)=true/\slotN (app B (putW B x)) (x.n % 2)=x:=by
 have hk:x.n % 2 < 2:=by omega
 obtain⟨C,hC,hCl⟩:∃C,app B (preW B (20 * (x.n % 2)))=C/\C.length=64:=⟨_,rfl,by rw[app_len,hB]⟩
 have e:app B (putW B x)=(C.take (20 * (x.n % 2))++(img x++C.drop (20 * (x.n % 2)+16))).set (20 * (x.n % 2)+16) 165:=by
  unfold putW
  rw[app_append,app_append,hC,app_seq _ _ _ (by rw[img_len];omega),img_len]
  rfl
 have hL:slotL (app B (putW B x)) (x.n % 2)=img x:=by
  apply List.ext_getElem?
  intro i
  by_cases hi:i < 16
  ·rw[slotL_at _ _ _ hi,e,List.getElem?_set_ne (by omega),List.getElem?_append_right (by rw[List.length_take];omega),List.length_take,Nat.min_eq_left (by omega),Nat.add_sub_cancel_left,List.getElem?_append_left (by rw[img_len];exact hi)]
  ·unfold slotL
   rw[List.getElem?_take,if_neg hi,List.getElem?_eq_none (by rw[img_len];omega)]
 have hM:slotM (app B (putW B x)) (x.n % 2)=165:=by
  unfold slotM
  rw[e,List.getD_eq_getElem?_getD,List.getElem?_set_self (by simp[img_len];omega)]
  rfl
 have hN:slotN (app B (putW B x)) (x.n % 2)=x:=by
  unfold slotN
  rw[hL]
  have:=nmOf_img h1 h2 h3 []
  rw[List.append_nil]at this
  exact this
 refine⟨?_,hN⟩
 unfold isHeld heldB
 have hN':nmOf (slotL (app B (putW B x)) (x.n % 2))=x:=hN
 rw[hN',hL,hM]
 simp[h0]
theorem newest_two (B:List UInt8):newest B=if isHeld B 1=true/\(if isHeld B 0=true/\0 < (slotN B 0).n then slotN B 0 else ⟨0,0,0⟩:Nm).n < (slotN B 1).n then slotN B 1 else (if isHeld B 0=true/\0 < (slotN B 0).n then slotN B 0 else ⟨0,0,0⟩):=rfl
theorem two_ok (B B':List UInt8) (x:Nm) (hx:x.n=(newest B).n+1) (ho:∀k,k < 2->k≠x.n % 2->isHeld B' k=isHeld B k/\slotN B' k=slotN B k) (hh:isHeld B' (x.n % 2)=true) (hn:slotN B' (x.n % 2)=x):newest B'=x:=by
 have s0:=held_spec (B:=B) (k:=0)
 have s1:=held_spec (B:=B) (k:=1)
 rw[newest_two]at hx
 rw[newest_two]
 have hk:x.n % 2=0\/x.n % 2=1:=by omega
 rcases hk with hk | hk <;> rw[hk]at ho hh hn
 ·obtain⟨a,b⟩:=ho 1 (by omega) (by omega)
  have hi:(if isHeld B' 0=true/\0 < (slotN B' 0).n then slotN B' 0 else ⟨0,0,0⟩:Nm)=x:=by rw[hh,hn,if_pos ⟨rfl,by omega⟩]
  rw[hi,a,b,if_neg]
  rintro⟨c,d⟩
  rw[c]at hx
  split at hx <;> split at hx <;> simp_all <;> omega
 ·obtain⟨a,b⟩:=ho 0 (by omega) (by omega)
  rw[hh,hn,a,b,if_pos]
  refine⟨rfl,?_⟩
  split at hx <;> split at hx <;> simp_all <;> omega
theorem two_no (B B':List UInt8) (x:Nm) (hx:x.n=(newest B).n+1) (ho:∀k,k < 2->k≠x.n % 2->isHeld B' k=isHeld B k/\slotN B' k=slotN B k) (hh:isHeld B' (x.n % 2)=false):newest B'=newest B:=by
 have s0:=held_spec (B:=B) (k:=0)
 have s1:=held_spec (B:=B) (k:=1)
 have hk:x.n % 2=0\/x.n % 2=1:=by omega
 rw[newest_two]at hx
 rw[newest_two,newest_two]
 rcases hk with hk | hk <;> rw[hk]at ho hh
 ·obtain⟨a,b⟩:=ho 1 (by omega) (by omega)
  rw[hh,a,b]
  cases h1:isHeld B 1 <;> cases h0:isHeld B 0 <;> rw[h1,h0]at hx <;> simp only[h0,h1,true_implies]at s0 s1 <;> simp at hx s0 s1 ⊢
  ·rw[if_pos (by omega)]at hx
   exfalso;omega
  ·rw[if_pos (show 0 < (slotN B 0).n by omega)]at hx ⊢
   split at hx
   ·rename_i h
    rw[if_pos (by omega),if_pos h]
   ·exfalso;omega
 ·obtain⟨a,b⟩:=ho 0 (by omega) (by omega)
  rw[hh,a,b]
  cases h1:isHeld B 1 <;> cases h0:isHeld B 0 <;> rw[h1,h0]at hx <;> simp only[h0,h1,true_implies]at s0 s1 <;> simp at hx s0 s1 ⊢
  ·intro h
   rw[if_pos h]at hx
   exfalso;omega
  ·rw[if_pos (show 0 < (slotN B 0).n by omega)]at hx ⊢
   intro h
   rw[if_pos h]at hx
   exfalso;omega
theorem put_pair {s:By} (hB:s.B.length=64) {x:Nm} (hx:x.n=(newest s.B).n+1) (h1:x.n < 4294967296) (h2:x.e < 4294967296) (h3:x.l < 4294967296) :
  ((putS s x).2=true->newest (putS s x).1.B=x/\(putS s x).1.on=true)/\((putS s x).2=false->newest (putS s x).1.B=newest s.B/\(putS s x).1.on=false):=by
 have hne:putW s.B x≠[]:=fun e=>by have:=putW_len s.B x;rw[e]at this;simp at this
 unfold putS
 rw[wrs_eq]
 by_cases hc:s.on=true/\(s.cut=false\/(putW s.B x).length<=s.left)
 ·rw[if_pos hc]
  refine⟨fun _=>⟨?_,rfl⟩,fun h=>by cases h⟩
  obtain⟨a,b⟩:=put_whole hB (by omega) h1 h2 h3
  exact two_ok s.B _ x hx (fun k _ hn=>put_other (fun _ h=>h) k hn) a b
 ·rw[if_neg hc]
  by_cases ho:s.on=true
  ·rw[if_pos (.inl ho),if_neg hne]
   refine⟨fun h=>(by cases h),fun _=>⟨?_,rfl⟩⟩
   have hlt:s.left < (putW s.B x).length:=by
    rcases Nat.lt_or_ge s.left (putW s.B x).length with h | h
    ·exact h
    ·exact absurd ⟨ho,.inr h⟩ hc
   show newest (app s.B ((putW s.B x).take s.left))=_
   rcases put_part hB x s.left hlt with h | h
   ·rw[h]
   ·exact two_no s.B _ x hx (fun k _ hn=>put_other (fun _ h=>List.mem_of_mem_take h) k hn) (unmarked h)
  ·rw[if_neg (by simp[ho,hne])]
   exact⟨fun h=>(by cases h),fun _=>⟨rfl,by simpa using ho⟩⟩
end
theorem wrs_left (l:List (Nat×UInt8)) (s:By):(wrs s l).1.left<=s.left:=by
 rw[wrs_eq]
 split
 ·simp only;split <;> omega
 ·split
  ·split
   ·exact Nat.le_refl _
   ·exact Nat.zero_le _
  ·exact Nat.le_refl _
theorem putE_left (off:Bool) (s:By) (ep li:Int):(putE off s ep li).2.1.left<=s.left:=by
 unfold putE
 repeat' split
 all_goals first | exact Nat.le_refl _ | exact wrs_left _ _
theorem putE_len (off:Bool) (s:By) (ep li:Int):(putE off s ep li).2.1.B.length=s.B.length:=by
 unfold putE
 repeat' split
 all_goals first | rfl | exact wrs_len _ _
structure Cl (w0 w:World) (b c:Nat) (s:By) (off:Bool):Prop where
 y:Byt w b s
 e:Cel w c b off
 ne:c≠b
 hb:w0.heap.size<=b
 hc:w0.heap.size<=c
 bl:Below w0 w0 w
 lf:s.left<=9223372036854775807
theorem Cl.below {w0 w w':World} {b c:Nat} {s:By} {off:Bool} (h:Cl w0 w b c s off) (k:Below w w w'):Cl w0 w' b c s off :=
 ⟨h.y.below k,h.e.below k,h.ne,h.hb,h.hc,t2 h.bl k,h.lf⟩
theorem new0_newest:newest new0.B=⟨0,0,0⟩:=by
 have h0:isHeld new0.B 0=false:=unmarked (by decide)
 have h1:isHeld new0.B 1=false:=unmarked (by decide)
 rw[newest_two,h0,h1]
 rfl
theorem put_on {s:By} (h:s.on=true) (hc:s.cut=false) (x:Nm):(putS s x).2=true:=by
 unfold putS
 rw[wrs_eq,if_pos ⟨h,.inl hc⟩]
theorem put_an2 (b:Nat) (low:Int) (T:Tb) (c:Ce) (n:Nat) (s:Nat->Addr) (w:World) (S:Se45 w s) (t:Tab w b low T) (hv:Vers T n) (hn:n<=1000000000) :
  Calls Tryz.prog 239 #[.pointer (some (b,0)),flowV c] w fun e w'=>e=.returned (.tuple #[.int .i64 ((putT T c.pr c.ia c.ip c.fa c.fp c.po c.st c.un).1:Nat),terr s (putT T c.pr c.ia c.ip c.fa c.fp c.po c.st c.un).2.1])/\Tab w' b low (putT T c.pr c.ia c.ip c.fa c.fp c.po c.st c.un).2.2/\Chg b w w':=by
 have HS:Hid (Se45 w s):=S
 have HT:Hid (Tab w b low T):=t
 have HV:Hid (Vers T n):=hv
 have hF:flowV c=.agg #[c.pr,c.ia,c.ip,c.fa,c.fp,c.po,c.st,c.un]:=rfl
 rw[hF]
 clear t S hv hF
 go_enter Tryz.func239,Tryz.ntmps239
 go_wp2_with fail
 have B0:Hid (Below w w (w.alloc (.cells #[c.pr,c.ia,c.ip,c.fa,c.fp,c.po,c.st,c.un] 185))):=aB _ _
 have F0:Hid (FlB (w.alloc (.cells #[c.pr,c.ia,c.ip,c.fa,c.fp,c.po,c.st,c.un] 185)) w c):=flB_new w c
 generalize w.alloc (.cells #[c.pr,c.ia,c.ip,c.fa,c.fp,c.po,c.st,c.un] 185)=w0 at *
 generalize hZ:w.heap.size=Z at F0 ⊢
 refine(find_any b low T c.pr c.ia c.ip c.fa c.fp w0 (HT.below B0)).mono ?_
 rintro e w1 ⟨rfl,hb1⟩
 have B1:Hid (Below w w w1):=t2 B0 hb1
 have F1:Hid (FlB w1 Z c):=F0.below hb1
 clear hb1 B0 F0
 have S1:=HS.below B1
 have s4:=S1.c4
 clear S1
 rcases hf:fst T (findQ c.pr c.ia c.ip c.fa c.fp) with _ | k0
 ·have HF:Hid (fst T (findQ c.pr c.ia c.ip c.fa c.fp)=none):=hf
  simp only[Option.isSome_none,Option.getD_none]
  clear hf s4
  have f0:=F1.c0
  have f1:=F1.c1
  have f2:=F1.c2
  have f3:=F1.c3
  have f4:=F1.c4
  have f5:=F1.c5
  have f6:=F1.c6
  have f7:=F1.c7
  go_wp2_with fail
  clear f0 f1 f2 f3 f4 f5 f6 f7
  refine(back_any b low T c.pr c.po c.fa c.fp w1 (HT.below B1)).mono ?_
  rintro e w2 ⟨rfl,hb2⟩
  have B2:Hid (Below w w w2):=t2 B1 hb2
  have F2:Hid (FlB w2 Z c):=F1.below hb2
  clear hb2 B1 F1
  have S1:=HS.below B2
  have s4:=S1.c4
  clear S1
  rcases hf:fst T (backQ c.pr c.po c.fa c.fp) with _ | k0
  ·have HG:Hid (fst T (backQ c.pr c.po c.fa c.fp)=none):=hf
   simp only[Option.isSome_none,Option.getD_none]
   clear hf s4
   go_wp2_with fail
   refine(free_any b low T w2 (HT.below B2)).mono ?_
   rintro e w3 ⟨rfl,hb3⟩
   have B3:Hid (Below w w w3):=t2 B2 hb3
   have F3:Hid (FlB w3 Z c):=F2.below hb3
   clear hb3 B2 F2
   have S1:=HS.below B3
   have s5:=S1.c5
   clear S1
   rcases hf:fst T freeQ with _ | k
   ·have HP:Hid (putT T c.pr c.ia c.ip c.fa c.fp c.po c.st c.un=(0,6,T)):=by show _=_;unfold putT;rw[HF.out,HG.out,hf]
    simp only[Option.isSome_none,Option.getD_none]
    clear hf
    go_wp2_with fail
    go_region
    go_wp2_with fail
    go_ret2
    rw[HP.out]
    exact⟨rfl,(HT.below B3).drew,(Chg.of B3.out).then (Below.refl _ _).drew⟩
   ·have HP:Hid (putT T c.pr c.ia c.ip c.fa c.fp c.po c.st c.un=(k,0,layT T k c.pr c.ia c.ip c.fa c.fp c.po c.st c.un)):=by show _=_;unfold putT;rw[HF.out,HG.out,hf]
    have hk:=fst_lt hf
    simp only[Option.isSome_some,Option.getD_some]
    clear hf s5
    have f0:=F3.c0
    have f1:=F3.c1
    have f2:=F3.c2
    have f3:=F3.c3
    have f4:=F3.c4
    have f5:=F3.c5
    have f6:=F3.c6
    have f7:=F3.c7
    go_wp2_with fail
    clear f0 f1 f2 f3 f4 f5 f6 f7
    have hve:=HV.out k hk
    refine(lay_any b low T k c w3 (HT.below B3) hk hve.1 (by omega)).mono ?_
    rintro e w4 ⟨rfl,t4,c4⟩
    have T4:Hid (Tab w4 b low (layT T k c.pr c.ia c.ip c.fa c.fp c.po c.st c.un)):=t4
    have C4:Hid (Chg b w w4):=(Chg.of B3.out).trans c4
    clear t4 c4 hve
    go_wp2_with fail
    go_ret2
    rw[HP.out]
    exact⟨rfl,T4,C4⟩
  ·have HP:Hid (putT T c.pr c.ia c.ip c.fa c.fp c.po c.st c.un=(0,5,T)):=by show _=_;unfold putT;rw[HF.out,hf]
   simp only[Option.isSome_some,Option.getD_some]
   clear hf
   go_wp2_with fail
   go_region
   go_wp2_with fail
   go_ret2
   rw[HP.out]
   exact⟨rfl,(HT.below B2).drew,(Chg.of B2.out).then (Below.refl _ _).drew⟩
 ·have HP:Hid (putT T c.pr c.ia c.ip c.fa c.fp c.po c.st c.un=(0,5,T)):=by show _=_;unfold putT;rw[hf]
  simp only[Option.isSome_some,Option.getD_some]
  clear hf
  go_wp2_with fail
  go_region
  go_wp2_with fail
  go_ret2
  rw[HP.out]
  exact⟨rfl,(HT.below B1).drew,(Chg.of B1.out).then (Below.refl _ _).drew⟩
theorem has_any (fl k:Int) (b:Bool) (hb:hasB fl k=b) (w:World):Calls Tryz.prog 224 #[fl,k] w fun e w'=>e=.returned (.bool b)/\w'=w:=by
 subst hb
 go_enter Tryz.func224,Tryz.ntmps224
 go_wp2_with fail
 go_ret
 exact⟨rfl,rfl⟩
theorem next_no (pr st fl:Int) (ou:Bool) (w:World) (h:pr≠2) :
  Calls Tryz.prog 188 #[pr,st,fl,.bool ou] w fun e w'=>e=.returned (.tuple #[st,.bool false])/\w'=w:=by
 have h1:(pr != 2)=true:=bne_iff_ne.2 h
 clear h
 go_enter Tryz.func188,Tryz.ntmps188
 go_wp2_with fail
 go_ret2
 exact⟨rfl,rfl⟩
theorem next_tcp (st fl:Int) (ou b8 b4 b3:Bool) (w:World) (h8:hasB fl 8=b8) (h4:hasB fl 4=b4) (h3:hasB fl 3=b3) (r:Int) (g:Bool)
  (hr:(b8=true/\r=0/\g=true)\/(b8=false/\b4=true/\r=3/\g=false)\/(b8=false/\b4=false/\(st==1)=true/\ou=false/\b3=true/\r=2/\g=false)
   \/ (b8=false/\b4=false/\(st==1)=true/\ou=false/\b3=false/\r=st/\g=false)\/(b8=false/\b4=false/\(st==1)=true/\ou=true/\r=st/\g=false)\/(b8=false/\b4=false/\(st==1)=false/\r=st/\g=false)) :
  Calls Tryz.prog 188 #[.int .i64 2,st,fl,.bool ou] w fun e w'=>e=.returned (.tuple #[r,.bool g])/\w'=w:=by
 have H8:Hid (hasB fl 8=b8):=h8
 have H4:Hid (hasB fl 4=b4):=h4
 have H3:Hid (hasB fl 3=b3):=h3
 clear h8 h4 h3
 rcases hr with⟨rfl,rfl,rfl⟩ | ⟨rfl,rfl,rfl,rfl⟩ | ⟨rfl,rfl,hs,rfl,rfl,rfl,rfl⟩ | ⟨rfl,rfl,hs,rfl,rfl,rfl,rfl⟩ | ⟨rfl,rfl,hs,rfl,rfl,rfl⟩ | ⟨rfl,rfl,hs,rfl,rfl⟩
 all_goals
  go_enter Tryz.func188,Tryz.ntmps188
  go_wp2_with fail
  refine(has_any fl 8 _ H8 _).mono ?_
  rintro e w1 ⟨rfl,rfl⟩
  go_wp2_with (first | (go_at_call_of 224 (Value.int IntKind.i64 4);refine(has_any fl 4 _ H4 _).mono ?_;rintro e w1 ⟨rfl,rfl⟩) | (go_at_call_of 224 (Value.int IntKind.i64 3);refine(has_any fl 3 _ H3 _).mono ?_;rintro e w1 ⟨rfl,rfl⟩))
  all_goals go_ret2
  all_goals exact⟨rfl,rfl⟩
theorem tknext_any (pr st fl:Int) (ou:Bool) (w:World) :
  Calls Tryz.prog 188 #[pr,st,fl,.bool ou] w fun e w'=>e=.returned (.tuple #[.int .i64 (nxtS pr st fl ou),.bool (nxtG pr fl)])/\w'=w:=by
 by_cases h:pr=2
 ·subst h
  refine next_tcp st fl ou _ _ _ w rfl rfl rfl _ _ ?_
  unfold nxtS nxtG
  rw[if_pos rfl]
  cases h8:hasB fl 8 <;> cases h4:hasB fl 4 <;> cases h3:hasB fl 3 <;> cases ou <;> by_cases hs:st=1 <;> simp[hs]
 ·have e1:nxtS pr st fl ou=st:=by unfold nxtS;rw[if_neg h]
  have e2:nxtG pr fl=false:=by unfold nxtG;rw[decide_eq_false h];rfl
  rw[e1,e2]
  exact next_no pr st fl ou w h
end Go.Proofs.YtabndgfdbdjdgaaGreatDoor
