/-
  What the claimed theorem reaches, part Q20.
-/
import Derived.Test.YtnogmjekhjldcaaGreatDoorQ19
namespace Go.Proofs.YtnogmjekhjldcaaGreatDoor
open Go.RowKit Go.Maps Go.Proofs.Tryz
set_option maxRecDepth 100000
set_option maxHeartbeats 8000000
theorem Me {w:World} {X c j l cap:Nat} {p:Option Addr} (a:w.cell? (X,2)=some (.int .i64 ((c+j) % 32:Nat))) (e:c < 32) (f:j < 32) (h:l < 8):qO X c (.slice p l cap) w=33 - j:=by
 unfold qO Yb lenV;rw[a];simp only;rw[ak om];have:(Int.toNat (((c+j) % 32:Nat):Int))=(c+j) % 32:=fJ _;rw[this];omega
theorem rW {wr w':World} {X c j l l' cap a:Nat} {p q:Option Addr} (h:wr.cell? (X,2)=some (.int .i64 ((c+j) % 32:Nat))) (e:w'.cell? (X,2)=some (.int .i64 ((c+(j+1)) % 32:Nat))) (f:c < 32) (i:j < 32) (k:l < 8) (m:l' < 8->j+1 < 32):qO X c (.slice q l' a) w' < qO X c (.slice p l cap) wr:=by
 rw[Me h f i k];by_cases o:l' < 8
 ·rw[Me e f (m om) o];omega
 ·rw[Dq om];omega
def FrP (n:Nat) (p:Option Addr):Prop:=∀b,p=some b->n<=b.block
theorem zu {w:World} {base:Nat} {v:Value} {T:Tb} {L:List Nat} (h:wX w base v T L):∃p cap,v=.slice p L.length cap:=by
 obtain⟨p,cap,e,_⟩:=h.open;exact⟨p,cap,e⟩
theorem Vb {T:Tb} {D:To} {i:Nat} {L:List Nat} (f:L=(List.range i).filter fun s=>(T s).ve != D s) (l:i<=32) (j:L.length<=8) (a:i=32\/L.length=8):L=(dH T D).take 8:=by
 have k:List.range 32=List.range i++(List.range (32 - i)).map (i+·):=by
  rw[<- List.range_add];congr 1
  omega
 have e:dH T D=L++((List.range (32 - i)).map (i+·)).filter fun s=>(T s).ve != D s:=by
  unfold dH;rw[k,WY,<- f]
 rcases a with rfl | h
 ·rw[e];simp only[TN,List.range_zero,TP,List.filter_nil,JH];rw[vk j]
 ·rw[e,<- h,List.take_left]
theorem Vd (y m h g cap c:Nat) (low:Int) (T:Tb) (D:To) (w:World) (t:RTab w m g cap low T) (r:oq w y m h D c) (hc:c < 32) (Zg:m≠y/\m≠h/\g≠y/\g≠h) :
  Calls prog 123 #[.pointer (some (y,0))] w fun e w'=>∃L c' p cp,Nx T D c L c'/\e=.returned (.slice p 8 cp)/\Jg w' p T L/\FrP w p/\RTab w' m g cap low T/\oq w' y m h (jD T D L) c'/\bW y h w w':=by
 obtain⟨i0,hi,Zh,Zi,Zj⟩:=lu Tryz.tu;have Zk:=Qa w;obtain⟨q,K⟩:∃q,q=w.heap.size:=⟨_,rfl⟩;have HQ:=jH K;have R0:Hid (Rn w (w.alloc (.cells (pJ []) 4)) y m h g cap q low T D [] c (.slice none 0 0)):=by
  have e1:=eF r.c0;have e2:=eF t.c0;have e3:=r.a.lt;have e4:=t.sl.lt;simp only at e1 e2;exact⟨t.below (aB _ _),r.below (aB _ _),⟨_,by rw[K];exact dh w _⟩,ql _ _ _ _,bW.of (aB _ _),K,⟨e1,e2,e3,e4⟩,Zg⟩
 rw[<- K]at Zk;clear t r Zg K;go_enter func123,ntmps123;go_wp2_with fail;clear Zk;generalize w.alloc (.cells (pJ []) 4)=w0 at *;go_loopw [3,5] (fun v ti wr=>∃(i:Nat) (L:List Nat),i<=32/\ti=.int .i64 i/\L=((List.range i).filter fun s=>(T s).ve != D s)/\L.length<=8/\Rn w wr y m h g cap q low T D L c v) (fun _ ti _=>32 - (intOf ti).toNat)
 case atStart=>exact⟨0,[],by omega,rfl,rfl,by simp,R0⟩
 case round =>
  obtain⟨i,L,Zl,rfl,hL,h8,hr⟩:=hrel;obtain⟨p,cp,rfl⟩:=zu hr.o;have HL:=jH hL;have Q:=jH hr;clear hL hr R0;by_cases Zt:i < 32/\L.length < 8
  ·obtain⟨l,Zu⟩:=Zt;have j0:=jN i
   have j1:(i:Int) < 32:=by omega
   have j2:(L.length:Int) < 8:=by omega
   have d0:=Q.r.c0;have d1:=Q.r.c1;have d2:=Q.r.a.at' l;have m1:=Q.t.c1;have s1:=Q.t.sl.at' (k:=1) l om;simp only[Ce.get]at s1;have HS:Hid (((List.range (i+1)).filter fun s=>(T s).ve != D s)=L++if ((T i).ve != D i)=true then [i] else []):=by
    show _=_;rw[ace,WY,<- HL.out];by_cases K:((T i).ve != D i)=true <;> simp[K]
   have f:=jH (Q.below bD);clear Q;rcases K:((T i).ve != D i) with _ | _
   ·go_wp2_with fail;go_region;all_goals
     go_wp2_with fail;go_roundw
     case rel=>exact⟨i+1,L,by omega,by go_num,by rw[HS.out,ak (by rw[K];simp),JH],h8,f⟩
     case measure=>simp[intOf];omega
   ·have Zv:Hid (((List.range (i+1)).filter fun s=>(T s).ve != D s)=L++[i]):=by show _=_;rw[HS.out,aj K]
    clear HS;go_wp2_with fail;go_region;clear K d0 d1 d2 m1 s1;generalize wr.drew=W at *;have d0:=f.r.c0;have m1:=f.t.c1;have s0:=f.t.sl.at' (k:=0) l om;have s1:=f.t.sl.at' (k:=1) l om;have s2:=f.t.sl.at' (k:=2) l om;have s3:=f.t.sl.at' (k:=3) l om;have s4:=f.t.sl.at' (k:=4) l om;have s5:=f.t.sl.at' (k:=5) l om;have s6:=f.t.sl.at' (k:=6) l om;have s7:=f.t.sl.at' (k:=7) l om;have s8:=f.t.sl.at' (k:=8) l om;have s9:=f.t.sl.at' (k:=9) l om;simp only[Ce.get,oV]at s0 s1 s2 s3 s4 s5 s6 s7 s8 s9;have N4:Hid (∀q u,(Bd T i)[q]? = some u->(W.alloc (.cells #[i,(T i).ve,(T i).pr,(T i).ia,(T i).ip,(T i).fa,(T i).fp,(T i).po,(T i).st,(T i).un] 117)).cell? (Addr.add (W.heap.size,0) q)=some u):=fun q u hu=>by
     rw[qo,fE,nw];simpa [Bd] using hu
    have Zw:=f.x.size;go_wp2_with (at_builtin;refine vw _ rfl _ _ 84 rfl (w.heap.size+1) 117 i0 _ 10 80 Tryz.underlying84 hi Zh Zi Zj rfl dC (.slice p L.length cp) L.length (iK T L) rfl (World.ownsRow.alloc f.o _) ⟨W.heap.size,0,none⟩ 1 1 (Bd T i) rfl rfl N4 (xU T i) (by unfold maxLen;omega) om (by simp;omega) ?_)
    intro v5 w5 M N _;obtain⟨u1,u2,u3,u4,u5⟩:=(f.below (aB W _)).grown N (v':=v5) (L':=L++[i]) (by unfold wX;rw[Ef,jw];exact M);have U:=jH (Rn.taken u1 u2 u3 u4 u5 f.eq f.ym f.ne l rfl);obtain⟨bb,k5⟩:∃bb,w5.cell? (q,i)=some (.bool bb):=⟨_,u3.at' l⟩;have f5:=u3.fr i;clear u1 u2 u3 u4 u5 M N N4 f s0 s1 s2 s3 s4 s5 s6 s7 s8 s9 d0 m1;go_wp2_with fail;go_roundw
    case rel=>exact⟨i+1,L++[i],by omega,by go_num,Zv.symm,by rw[jw];simp;omega,U⟩
    case measure=>simp[intOf];omega
  ·have HB:=jH (Vb HL Zl h8 om);clear HL;have Zm:((i:Int) < 32/\¬(L.length:Int) < 8)\/¬(i:Int) < 32:=by omega
   rcases Zm with⟨j1,j2⟩ | j1;all_goals
    go_wp2_with fail;go_loopw [3] (fun v wi=>∃j:Nat,(∀i,i < j->(wk L c i).length < 8)/\Rn w wi y m h g cap q low T D (wk L c j) ((c+j) % 32) v) (fun v wi=>qO y c v wi)
    case atStart=>exact⟨0,fun i hi=>by omega,by rw[oV,Nat.mod_eq_of_lt hc];exact Q⟩
    case round =>
     obtain⟨j,S,hr⟩:=hrel;obtain⟨p2,G,rfl⟩:=zu hr.o;have O:=jH S;have f:=jH hr;clear S hr Q;by_cases l:(wk L c j).length < 8
     ·have J:=nD O l;have Zu:((wk L c j).length:Int) < 8:=by omega
      have HM:=jH f.r.c2;have E:Hid (∀i,i < j+1->(wk L c i).length < 8):=fun i hi=>by
       by_cases e:i=j
       ·rw[e];exact l
       ·exact O i om
      obtain⟨z,V⟩:∃z,z=(c+j) % 32:=⟨_,rfl⟩;have H:=jH V;have A:z < 32:=by omega
      rw[<- V]at f;have y0:=jN z
      have y1:(z:Int) < 32:=by omega
      have c2:=f.r.c2;have f2:=f.r.f2;have kk:=f.k.at' A;have Zx:=eF c2;simp only at Zx;clear V O;by_cases hm:z ∈ wk L c j
      ·have X:=jH (XG (by rw[<- H.out];exact hm));have hd:=gG hm;rw[hd]at kk;clear hd hm;by_cases I:z=31
       ·have Y:=jH I;have P:((z:Int)+1==32)=true:=by rw[I];rfl
        clear I;have B:Hid (Rn w ((wr.setCell (y,2) (.int .i64 ((z:Int)+1))).setCell (y,2) (.int .i64 0)) y m h g cap q low T D (wk L c (j+1)) ((c+(j+1)) % 32) (.slice p2 (wk L c j).length G)):=by
         rw[X.out,show(c+(j+1)) % 32=0 from by have:=H.out;have:=Y.out;omega];exact(f.cur (c':=z+1) om).cur (c':=0) om
        clear f;go_wp2_with fail;go_roundw
        case rel=>exact⟨j+1,E,B⟩
        case measure=>exact rW HM B.r.c2 hc J l (fun h=>nD E (by rw[X.out];exact h))
       ·have P:=dG.2 om;have B:Hid (Rn w (wr.setCell (y,2) (.int .i64 ((z:Int)+1))) y m h g cap q low T D (wk L c (j+1)) ((c+(j+1)) % 32) (.slice p2 (wk L c j).length G)):=by
         rw[X.out,show(c+(j+1)) % 32=z+1 from by have:=H.out;omega];exact f.cur (c':=z+1) om
        clear f;go_wp2_with fail;go_roundw
        case rel=>exact⟨j+1,E,B⟩
        case measure=>exact rW HM B.r.c2 hc J l (fun h=>nD E (by rw[X.out];exact h))
      ·have X:Hid (wk L c (j+1)=wk L c j++[z]):=by show _=_;rw[OH (by rw[<- H.out];exact hm),<- H.out]
       have hd:=gQ hm;rw[hd]at kk;clear hd hm;have d0:=f.r.c0;have m1:=f.t.c1;have s0:=f.t.sl.at' (k:=0) A om;have s1:=f.t.sl.at' (k:=1) A om;have s2:=f.t.sl.at' (k:=2) A om;have s3:=f.t.sl.at' (k:=3) A om;have s4:=f.t.sl.at' (k:=4) A om;have s5:=f.t.sl.at' (k:=5) A om;have s6:=f.t.sl.at' (k:=6) A om;have s7:=f.t.sl.at' (k:=7) A om;have s8:=f.t.sl.at' (k:=8) A om;have s9:=f.t.sl.at' (k:=9) A om;simp only[Ce.get,oV]at s0 s1 s2 s3 s4 s5 s6 s7 s8 s9;have N4:Hid (∀q u,(Bd T z)[q]? = some u->(wr.alloc (.cells #[z,(T z).ve,(T z).pr,(T z).ia,(T z).ip,(T z).fa,(T z).fp,(T z).po,(T z).st,(T z).un] 117)).cell? (Addr.add (wr.heap.size,0) q)=some u):=fun q u hu=>by
        rw[qo,fE,nw];simpa [Bd] using hu
       have Zw:=f.x.size;go_wp2_with (at_builtin;refine vw _ rfl _ _ 84 rfl (w.heap.size+1) 117 i0 _ 10 80 Tryz.underlying84 hi Zh Zi Zj rfl dC (.slice p2 (wk L c j).length G) (wk L c j).length (iK T (wk L c j)) rfl (World.ownsRow.alloc f.o _) ⟨wr.heap.size,0,none⟩ 1 1 (Bd T z) rfl rfl N4 (xU T z) (by unfold maxLen;omega) om (by simp;omega) ?_)
       intro v5 w5 M N _;obtain⟨u1,u2,u3,u4,u5⟩:=(f.below (aB wr _)).grown N (v':=v5) (L':=wk L c j++[z]) (by unfold wX;rw[Ef,jw];exact M);have U:=jH (Rn.taken u1 u2 u3 u4 u5 f.eq f.ym f.ne A rfl);obtain⟨bb,k5⟩:∃bb,w5.cell? (q,z)=some (.bool bb):=⟨_,u3.at' A⟩;have f5:=u3.fr z;have ZF:=u2.c2;have ZG:=u2.f2;have Zy:q≠y:=by have:=f.ym;have:=f.eq;omega
       have ZH:y≠q:=fun e=>Zy e.symm;rw[<- X.out]at u4;obtain⟨p5,Zn,rfl⟩:=zu u4;rw[<- X.out]at U;clear u1 u2 u3 u4 u5 M N N4 f s0 s1 s2 s3 s4 s5 s6 s7 s8 s9 d0 m1 kk c2 f2;by_cases I:z=31
       ·have Y:=jH I;have P:((z:Int)+1==32)=true:=by rw[I];rfl
        clear I;have B:Hid (Rn w (((w5.setCell (q,z) (.bool true)).setCell (y,2) (.int .i64 ((z:Int)+1))).setCell (y,2) (.int .i64 0)) y m h g cap q low T D (wk L c (j+1)) ((c+(j+1)) % 32) (.slice p5 (wk L c (j+1)).length Zn)):=by
         rw[show(c+(j+1)) % 32=0 from by have:=H.out;have:=Y.out;omega];exact(U.cur (c':=z+1) om).cur (c':=0) om
        clear U;go_wp2_with fail;go_roundw
        case rel=>exact⟨j+1,E,B⟩
        case measure=>exact rW HM B.r.c2 hc J l (fun h=>nD E h)
       ·have P:=dG.2 om;have B:Hid (Rn w ((w5.setCell (q,z) (.bool true)).setCell (y,2) (.int .i64 ((z:Int)+1))) y m h g cap q low T D (wk L c (j+1)) ((c+(j+1)) % 32) (.slice p5 (wk L c (j+1)).length Zn)):=by
         rw[show(c+(j+1)) % 32=z+1 from by have:=H.out;omega];exact U.cur (c':=z+1) om
        clear U;go_wp2_with fail;go_roundw
        case rel=>exact⟨j+1,E,B⟩
        case measure=>exact rW HM B.r.c2 hc J l (fun h=>nD E h)
     ·have Zp:¬((wk L c j).length:Int) < 8:=by omega
      have HX:Hid (Nx T D c (wk L c j) ((c+j) % 32)):=by
       have hu:Full L c j:=⟨O,by omega⟩;rw[HB.out]at hu ⊢;exact⟨j,hu,rfl,rfl⟩
      have R3:Hid (Rn w wr y m h g cap q low T (jD T D ((wk L c j).take 0)) (wk L c j) ((c+j) % 32) (.slice p2 (wk L c j).length G)):=by rw[rJ];exact f
      have Zq:=HX.len;rw[Zq]at R3 ⊢;obtain⟨F,hF⟩:∃F,F=wk L c j:=⟨_,rfl⟩;obtain⟨c',Zr⟩:∃c',c'=(c+j) % 32:=⟨_,rfl⟩;rw[<- hF,<- Zr]at HX R3;clear hF Zr Zq Zp f O;go_wp2_with fail;go_loopw [7] (fun t wi=>∃k:Nat,k<=8/\t=.int .i64 k/\Rn w wi y m h g cap q low T (jD T D (F.take k)) F c' (.slice p2 8 G)) (fun t _=>8 - (intOf t).toNat)
      case atStart=>exact⟨0,by omega,rfl,R3⟩
      case round =>
       obtain⟨k,hk,rfl,hr⟩:=hrel;have B:=jH hr;clear hr R3;have Zz:=HX.len;by_cases l:k < 8
       ·have z0:=jN k
        have z1:(k:Int) < 8:=by omega
        obtain⟨s,S⟩:∃s,F[k]? = some s:=⟨_,fD om⟩;have R:=HX.lt s (kW S);have z2:=jN s
        have z3:(s:Int) < 32:=by omega
        obtain⟨p6,ZB,e6,C,_⟩:=B.o.open;injection e6 with e61 _ _;obtain⟨g6,e7,Z⟩:=C k s S;rw[<- e61]at e7;subst e7;have a0:=Z 0 om;have a1:=Z 1 om;simp only[Ce.get,oV]at a0 a1;have d1:=B.r.c1;have d2:=B.r.a.at' R;have d3:=B.r.a.fr s;have R5:Hid (Rn w (wr.setCell (h,s) (.int .i64 (T s).ve)).drew y m h g cap q low T (jD T D (F.take (k+1))) F c' (.slice (some (g6,0)) 8 G)):=by
         rw[rH S];exact(B.told R _).below bD
        clear S e61 C Z Zz B;go_wp2_with fail;go_region;all_goals
         go_wp2_with fail;go_roundw
         case rel=>exact⟨k+1,by omega,by go_num,R5⟩
         case measure=>simp[intOf];omega
       ·obtain rfl:k=8:=by omega
        go_wp2_with fail;go_ret;obtain⟨p6,ZB,e6,C,ZC⟩:=B.o.open;injection e6 with e61 _ _;rw[<- e61]at C;refine⟨F,c',p2,G,HX,rfl,C,fun b e=>?_,B.t,?_,B.x⟩
        ·obtain⟨s0,ZE⟩:∃s0,F[0]? = some s0:=⟨_,fD (by have:=HX.len;omega)⟩;obtain⟨g0,e0,_⟩:=C 0 s0 ZE;rw[e]at e0
         cases e0
         have:=ZC g0 (by rw[e];rfl);show w.heap.size<=g0;omega
        have:=B.r;rw[vk om]at this;exact this
end Go.Proofs.YtnogmjekhjldcaaGreatDoor
